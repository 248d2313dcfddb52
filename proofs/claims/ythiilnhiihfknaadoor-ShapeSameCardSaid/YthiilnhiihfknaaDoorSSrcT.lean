/-
  A draft's source: stmt, kind by kind. Written by gen3_srct.py.
-/
import Derived.Test.YthiilnhiihfknaaDoorSSrcE
namespace Go.Proofs.YthiilnhiihfknaaDoor
open Go Go.RowKit

/-- What block gives: a row of its own; what stmt gives. -/
def BlkR (w : World) (S M : Nat) (l : Bytes) (r : List St × Sr) (e : Ending) (w' : World) : Prop :=
  ∃ v, e = .returned v ∧ Fr S S w w' ∧ SrcAt w' S M l r.2 ∧ GrI kS w.heap.size r.1 v w' ∧ (r.1 = [] → v = .slice none 0 0)
def StR (w : World) (S M : Nat) (l : Bytes) (r : St × Sr) (e : Ending) (w' : World) : Prop :=
  ∃ va vb ve, e = .returned (sV r.1 va vb ve) ∧ Fr S S w w' ∧ SrcAt w' S M l r.2 ∧ New w' (Rn w.heap.size w'.heap.size) r.1 va vb ve
abbrev store8B (w : World) (g : Nat) (s : St) (va vb ve : Value) : World :=
  ((((((((w.setCell ⟨g, 0, none⟩ (.int .i64 s.kind)).setCell ⟨g, 1, none⟩ (.int .i64 s.no)).setCell ⟨g, 2, none⟩ (.string (B s.name))).setCell ⟨g, 3, none⟩ (.int .i64 s.typ)).setCell ⟨g, 4, none⟩ (.string (B s.callee))).setCell ⟨g, 5, none⟩ va).setCell ⟨g, 6, none⟩ vb).setCell ⟨g, 7, none⟩ ve)
theorem store8B_size (w : World) (g : Nat) (s : St) (va vb ve : Value) : (store8B w g s va vb ve).heap.size = w.heap.size := by simp only [store8B, size_set]
theorem store8B_cell (w : World) (g : Nat) (s : St) (va vb ve : Value) {b : Nat} (hb : b ≠ g) (k : Nat) : (store8B w g s va vb ve).cell? ⟨b, k, none⟩ = w.cell? ⟨b, k, none⟩ := by
  apply World.cell?_of_block
  simp only [store8B]
  rw [Below.heap_setCell _ _ _ b hb, Below.heap_setCell _ _ _ b hb, Below.heap_setCell _ _ _ b hb, Below.heap_setCell _ _ _ b hb, Below.heap_setCell _ _ _ b hb, Below.heap_setCell _ _ _ b hb, Below.heap_setCell _ _ _ b hb, Below.heap_setCell _ _ _ b hb]
section
variable {w : World} {b : Nat} {s : St} {va vb ve : Value}
theorem BX.set2 (h : BX w b s va vb ve) (u : Bytes) : BX (w.setCell ⟨b, 2, none⟩ (.string (B u))) b { s with name := u } va vb ve := RowAt.set1 h (i := 0) (j := 2) (r := sC s va vb ve) rfl (by omega) _
theorem BX.set3 (h : BX w b s va vb ve) (u : Int) : BX (w.setCell ⟨b, 3, none⟩ (.int .i64 u)) b { s with typ := u } va vb ve := RowAt.set1 h (i := 0) (j := 3) (r := sC s va vb ve) rfl (by omega) _
theorem BX.set4 (h : BX w b s va vb ve) (u : Bytes) : BX (w.setCell ⟨b, 4, none⟩ (.string (B u))) b { s with callee := u } va vb ve := RowAt.set1 h (i := 0) (j := 4) (r := sC s va vb ve) rfl (by omega) _
theorem BX.putT (h : BX w b s va vb ve) (s' : St) (va' vb' ve' : Value) : BX (store8B w b s' va' vb' ve') b s' va' vb' ve' := RowAt.set8 h (i := 0) (r := sC s va vb ve) rfl _ _ _ _ _ _ _ _
end
theorem st_fin {w w2 : World} {S M : Nat} {l : Bytes} {s' : Sr} {x : St} {va vb ve : Value} (hM : M ≤ w.heap.size) (hF : Fr S S w w2) (hS : SrcAt w2 S M l s') (hE : New w2 (fun b => w.heap.size < b ∧ b < w2.heap.size) x va vb ve) :
    StR w S M l (x, s') (.returned (sV x va vb ve)) (store8B w2 w.heap.size x va vb ve) := by
  refine ⟨va, vb, ve, rfl, ?_, ?_, ?_⟩
  · exact (((((((hF.setNew (p := ⟨w.heap.size, _, none⟩) (Nat.le_refl _) _).setNew (p := ⟨w.heap.size, _, none⟩) (Nat.le_refl _) _).setNew (p := ⟨w.heap.size, _, none⟩) (Nat.le_refl _) _).setNew (p := ⟨w.heap.size, _, none⟩) (Nat.le_refl _) _).setNew (p := ⟨w.heap.size, _, none⟩) (Nat.le_refl _) _).setNew (p := ⟨w.heap.size, _, none⟩) (Nat.le_refl _) _).setNew (p := ⟨w.heap.size, _, none⟩) (Nat.le_refl _) _).setNew (p := ⟨w.heap.size, _, none⟩) (Nat.le_refl _) _
  · exact (((((((hS.set (p := ⟨w.heap.size, _, none⟩) hM _).set (p := ⟨w.heap.size, _, none⟩) hM _).set (p := ⟨w.heap.size, _, none⟩) hM _).set (p := ⟨w.heap.size, _, none⟩) hM _).set (p := ⟨w.heap.size, _, none⟩) hM _).set (p := ⟨w.heap.size, _, none⟩) hM _).set (p := ⟨w.heap.size, _, none⟩) hM _).set (p := ⟨w.heap.size, _, none⟩) hM _
  · exact hE.keep (fun b hb => ⟨by omega, by rw [store8B_size]; exact hb.2⟩) fun b i hb => store8B_cell _ _ _ _ _ _ (by omega) _
/-- What the world holds on the way: the source, the two boxes (the result's, W0, and the variable's, W1). -/
structure At (w : World) (S M : Nat) (l : Bytes) (W1 : Nat) (s : Sr) (x : St) (va vb ve : Value) (wr : World) : Prop where
  fr : Fr S S w wr
  src : SrcAt wr S M l s
  z : BX wr w.heap.size ⟨0, 0, [], 0, [], [], [], []⟩ (.slice none 0 0) (.slice none 0 0) (.slice none 0 0)
  x : BX wr W1 x va vb ve
  lt : w.heap.size < W1
  lt2 : W1 < wr.heap.size
section
variable {w : World} {S M : Nat} {l : Bytes} {W1 : Nat} {s s' : Sr} {x : St} {va vb ve : Value} {wr w' : World}
theorem At.go (h : At w S M l W1 s x va vb ve wr) (hS : S < w.heap.size) (hf : Fr S S wr w') (hs : SrcAt w' S M l s') : At w S M l W1 s' x va vb ve w' :=
  ⟨h.fr.trans hf, hs, h.z.fr hf (by omega) (by omega), h.x.fr hf (by have := h.lt; omega) (by have := h.lt; omega), h.lt, Nat.lt_of_lt_of_le h.lt2 hf.size⟩
theorem At.of {x' : St} {va' vb' ve' : Value} {j : Nat} {u : Value} (h : At w S M l W1 s x va vb ve wr) (hM : M ≤ w.heap.size) (hx : BX (wr.setCell ⟨W1, j, none⟩ u) W1 x' va' vb' ve') : At w S M l W1 s x' va' vb' ve' (wr.setCell ⟨W1, j, none⟩ u) :=
  ⟨h.fr.setNew (p := ⟨W1, j, none⟩) (by show w.heap.size ≤ W1; have := h.lt; omega) _, h.src.set (p := ⟨W1, j, none⟩) (by show M ≤ W1; have := h.lt; omega) _, h.z.keep (Below.heap_setCell _ _ _ _ (by show w.heap.size ≠ W1; have := h.lt; omega)), hx, h.lt, by rw [size_set]; exact h.lt2⟩
end
/-- Parts of the variable: blocks behind its box. -/
abbrev Qn (W1 : Nat) (wr : World) (b : Nat) : Prop := W1 < b ∧ b < wr.heap.size
theorem Qn.set {W1 : Nat} {wr : World} {l : List Ex} {v : Value} (h : ER wr (Qn W1 wr) l v) (j : Nat) (u : Value) : ER (wr.setCell ⟨W1, j, none⟩ u) (Qn W1 (wr.setCell ⟨W1, j, none⟩ u)) l v :=
  h.keep (fun b hb => ⟨hb.1, by rw [size_set]; exact hb.2⟩) fun b i hb => cell_set_ne (by show b ≠ W1; omega)
theorem Qn.setS {W1 : Nat} {wr : World} {l : List St} {v : Value} (h : SR wr (Qn W1 wr) l v) (j : Nat) (u : Value) : SR (wr.setCell ⟨W1, j, none⟩ u) (Qn W1 (wr.setCell ⟨W1, j, none⟩ u)) l v :=
  h.keep (fun b hb => ⟨hb.1, by rw [size_set]; exact hb.2⟩) fun b i hb => cell_set_ne (by show b ≠ W1; omega)
theorem Qn.fr {W1 S : Nat} {wr w' : World} {l : List Ex} {v : Value} (h : ER wr (Qn W1 wr) l v) (hS : S ≤ W1) (hf : Fr S S wr w') : ER w' (Qn W1 w') l v :=
  h.keep (fun b hb => ⟨hb.1, Nat.lt_of_lt_of_le hb.2 hf.size⟩) fun b i hb => hf.cell hb.2 (by have := hb.1; omega) (by have := hb.1; omega)
theorem Qn.frS {W1 S : Nat} {wr w' : World} {l : List St} {v : Value} (h : SR wr (Qn W1 wr) l v) (hS : S ≤ W1) (hf : Fr S S wr w') : SR w' (Qn W1 w') l v :=
  h.keep (fun b hb => ⟨hb.1, Nat.lt_of_lt_of_le hb.2 hf.size⟩) fun b i hb => hf.cell hb.2 (by have := hb.1; omega) (by have := hb.1; omega)
theorem loopD_len (st : Sr → St × Sr) (n : Nat) (s : Sr) : (loopD st n s).1.length ≤ n := by
  induction n with
  | zero => simp [loopD]
  | succ n ih =>
    rw [loopD]
    split
    · omega
    · simp; omega
theorem blockD_len (l : Bytes) (h : Nat) (s : Sr) : (blockD l h s).1.length ≤ 3 := by
  cases h with
  | zero => simp [blockD]
  | succ h =>
    have := loopD_len (stD l (blockD l h)) (nextD l 4 s.pos) ⟨stepD l s.pos, s.left⟩
    have := nextD_lt l (n := 4) s.pos (by omega)
    rw [blockD]
    omega

section
variable (S M : Nat) (l : Bytes) (h : Nat) (H : Int) (s : Sr) (w : World) (hH : H = (h : Int) + 1) (hh : h ≤ 2) (hs : SrcAt w S M l s)
include hH hh hs
set_option maxRecDepth 100000 in
set_option maxHeartbeats 4000000 in
theorem st_k1 (hk : nextD l 10 s.pos = 0) : Calls Tryd.prog 101 #[.pointer (some ⟨S, 0, none⟩), .int .i64 H] w (StR w S M l (stD l (blockD l h) s)) := by
  have HS := Lib.hid hs
  have HK := Lib.hid hk
  have _hh := hh
  have hH1 : 1 ≤ H := by omega
  have hH3 : H ≤ 3 := by omega
  have HX := Lib.hid (show stD l (blockD l h) s = (⟨1, 0, nameD l (stepD l s.pos), 1 + (nextD l 3 (stepD l (stepD l s.pos)) : Int), [], (exprsD l (nextD l 2 (stepD l (stepD l (stepD l s.pos)))) (stepD l (stepD l (stepD l (stepD l s.pos))))).1, [], []⟩, ⟨(exprsD l (nextD l 2 (stepD l (stepD l (stepD l s.pos)))) (stepD l (stepD l (stepD l (stepD l s.pos))))).2, s.left⟩) by simp [stD, hk])
  have hsl := hs.slt
  have hM := hs.le
  clear hs hk hH 
  go_enter Tryd.func101, Tryd.ntmps101
  go_wp2_with fail
  refine (next_calls S M l s 10 (by omega) (by omega) _ (HS.out.bel (bal _ _))).mono ?_
  rintro e w1 ⟨rfl, hf1, hs1⟩
  rw [HK.out]
  have hz1 : w.heap.size < w1.heap.size := by have := hf1.size; simp at this; omega
  have HA1 := Lib.hid (show At w S M l w1.heap.size ⟨stepD l s.pos, s.left⟩ ⟨1, 0, [], 0, [], [], [], []⟩ (.slice none 0 0) (.slice none 0 0) (.slice none 0 0) (w1.alloc (sO ⟨1, 0, [], 0, [], [], [], []⟩ (.slice none 0 0) (.slice none 0 0) (.slice none 0 0))) from
    ⟨((Fr.of (N := S) (S := S) (bal w _)).trans hf1).trans (Fr.of (bal _ _)), hs1.bel (bal _ _), ((BX.new w ⟨0, 0, [], 0, [], [], [], []⟩ (.slice none 0 0) (.slice none 0 0) (.slice none 0 0)).fr hf1 (by omega) (by omega)).bel (bal _ _) hz1, BX.new _ _ _ _ _, hz1, by simp⟩)
  have hW1 : S ≤ w1.heap.size := by omega
  have k0 := HA1.out.x.at_.c0
  have hn3 := nextD_lt l (n := 3) (stepD l (stepD l s.pos)) (by omega)
  clear hf1 hs1
  go_wp2_with fail
  refine (nmD_calls S M l ⟨stepD l s.pos, s.left⟩ _ HA1.out.src).mono ?_
  rintro e w2 ⟨rfl, hf2, hs2⟩
  have HA2 := Lib.hid (HA1.out.go hsl hf2 hs2)
  clear hf2 hs2
  go_wp2_with fail
  refine (next_calls S M l ⟨stepD l (stepD l s.pos), s.left⟩ 3 (by omega) (by omega) _ HA2.out.src).mono ?_
  rintro e w3 ⟨rfl, hf3, hs3⟩
  have HA3 := Lib.hid (HA2.out.go hsl hf3 hs3)
  clear hf3 hs3
  go_wp2_with fail
  refine (next_calls S M l ⟨stepD l (stepD l (stepD l s.pos)), s.left⟩ 2 (by omega) (by omega) _ HA3.out.src).mono ?_
  rintro e w4 ⟨rfl, hf4, hs4⟩
  have HA4 := Lib.hid (HA3.out.go hsl hf4 hs4)
  clear hf4 hs4
  go_wp2_with fail
  refine (exprsD_calls S M l (nextD l 2 (stepD l (stepD l (stepD l s.pos)))) (by have := nextD_lt l (n := 2) (stepD l (stepD l (stepD l s.pos))) (by omega); omega) ⟨stepD l (stepD l (stepD l (stepD l s.pos))), s.left⟩ _ HA4.out.src).mono ?_
  rintro e w5 ⟨v5, rfl, hf5, hs5, he5⟩
  have HA5 := Lib.hid (HA4.out.go hsl hf5 hs5)
  obtain ⟨A5, c5, rfl⟩ := he5.slice
  have PE5 := Lib.hid (he5.keep (R' := Qn w1.heap.size w5) (fun b hb => ⟨by have := HA4.out.lt2; have := hb.1; omega, hb.2⟩) fun _ _ _ => rfl)
  clear he5
  clear hf5 hs5
  obtain ⟨k0, k1, k2, k3, k4, k5, k6, k7⟩ := HA5.out.x.at_
  obtain ⟨z0, z1, z2, z3, z4, z5, z6, z7⟩ := HA5.out.z.at_
  have fx := HA5.out.x.free
  have fz := HA5.out.z.free
  have hne1 : w.heap.size ≠ w1.heap.size := by omega
  have hne2 : w1.heap.size ≠ w.heap.size := by omega
  have HB0 := Lib.hid (At.of HA5.out hM (j := 2) (BX.set2 HA5.out.x (nameD l (stepD l s.pos))))
  have PEs0 := Lib.hid (Qn.set PE5.out 2 (.string (B (nameD l (stepD l s.pos)))))
  have HB1 := Lib.hid (At.of HB0.out hM (j := 3) (BX.set3 HB0.out.x (1 + (nextD l 3 (stepD l (stepD l s.pos)) : Nat))))
  have PEs1 := Lib.hid (Qn.set PEs0.out 3 (.int .i64 (1 + (nextD l 3 (stepD l (stepD l s.pos)) : Nat))))
  have HB2 := Lib.hid (At.of HB1.out hM (j := 5) (BX.set5 HB1.out.x (.slice A5 (exprsD l (nextD l 2 (stepD l (stepD l (stepD l s.pos)))) (stepD l (stepD l (stepD l (stepD l s.pos))))).1.length c5)))
  have PEs2 := Lib.hid (Qn.set PEs1.out 5 (.slice A5 (exprsD l (nextD l 2 (stepD l (stepD l (stepD l s.pos)))) (stepD l (stepD l (stepD l (stepD l s.pos))))).1.length c5))
  go_wp2_with fail
  obtain ⟨t0, t1, t2, t3, t4, t5, t6, t7⟩ := BX.at_ (BX.putT HB2.out.z (⟨1, 0, nameD l (stepD l s.pos), 1 + (nextD l 3 (stepD l (stepD l s.pos)) : Nat), [], (exprsD l (nextD l 2 (stepD l (stepD l (stepD l s.pos)))) (stepD l (stepD l (stepD l (stepD l s.pos))))).1, [], []⟩) (.slice A5 (exprsD l (nextD l 2 (stepD l (stepD l (stepD l s.pos)))) (stepD l (stepD l (stepD l (stepD l s.pos))))).1.length c5) (.slice none 0 0) (.slice none 0 0))
  simp only at t0 t1 t2 t3 t4 t5 t6 t7
  clear k0 k1 k2 k3 k4 k5 k6 k7 z0 z1 z2 z3 z4 z5 z6 z7 fx fz
  refine bodyPost_ret (v := sV (⟨1, 0, nameD l (stepD l s.pos), 1 + (nextD l 3 (stepD l (stepD l s.pos)) : Nat), [], (exprsD l (nextD l 2 (stepD l (stepD l (stepD l s.pos)))) (stepD l (stepD l (stepD l (stepD l s.pos))))).1, [], []⟩) (.slice A5 (exprsD l (nextD l 2 (stepD l (stepD l (stepD l s.pos)))) (stepD l (stepD l (stepD l (stepD l s.pos))))).1.length c5) (.slice none 0 0) (.slice none 0 0)) (by simp [results, Tryd.results101, go_sem, t0, t1, t2, t3, t4, t5, t6, t7]) rfl ?_
  rw [HX.out]
  exact st_fin hM HB2.out.fr HB2.out.src ⟨⟨by unfold okI; simp, by unfold okI; simp, by unfold okI; simp only; omega, (by have := nameD_len l (stepD l s.pos); simp only; omega), by simp⟩, (PEs2.out.keep (fun b hb => ⟨by have := hb.1; omega, hb.2⟩) fun _ _ _ => rfl), SR.nil _ _, SR.nil _ _⟩
set_option maxRecDepth 100000 in
set_option maxHeartbeats 4000000 in
theorem st_k2 (hk : nextD l 10 s.pos = 1) : Calls Tryd.prog 101 #[.pointer (some ⟨S, 0, none⟩), .int .i64 H] w (StR w S M l (stD l (blockD l h) s)) := by
  have HS := Lib.hid hs
  have HK := Lib.hid hk
  have _hh := hh
  have hH1 : 1 ≤ H := by omega
  have hH3 : H ≤ 3 := by omega
  have HX := Lib.hid (show stD l (blockD l h) s = (⟨2, 0, nameD l (stepD l s.pos), 0, [], (exprsD l 1 (stepD l (stepD l s.pos))).1, [], []⟩, ⟨(exprsD l 1 (stepD l (stepD l s.pos))).2, s.left⟩) by simp [stD, hk])
  have hsl := hs.slt
  have hM := hs.le
  clear hs hk hH 
  go_enter Tryd.func101, Tryd.ntmps101
  go_wp2_with fail
  refine (next_calls S M l s 10 (by omega) (by omega) _ (HS.out.bel (bal _ _))).mono ?_
  rintro e w1 ⟨rfl, hf1, hs1⟩
  rw [HK.out]
  have hz1 : w.heap.size < w1.heap.size := by have := hf1.size; simp at this; omega
  have HA1 := Lib.hid (show At w S M l w1.heap.size ⟨stepD l s.pos, s.left⟩ ⟨2, 0, [], 0, [], [], [], []⟩ (.slice none 0 0) (.slice none 0 0) (.slice none 0 0) (w1.alloc (sO ⟨2, 0, [], 0, [], [], [], []⟩ (.slice none 0 0) (.slice none 0 0) (.slice none 0 0))) from
    ⟨((Fr.of (N := S) (S := S) (bal w _)).trans hf1).trans (Fr.of (bal _ _)), hs1.bel (bal _ _), ((BX.new w ⟨0, 0, [], 0, [], [], [], []⟩ (.slice none 0 0) (.slice none 0 0) (.slice none 0 0)).fr hf1 (by omega) (by omega)).bel (bal _ _) hz1, BX.new _ _ _ _ _, hz1, by simp⟩)
  have hW1 : S ≤ w1.heap.size := by omega
  have k0 := HA1.out.x.at_.c0
  have hn3 := nextD_lt l (n := 3) (stepD l (stepD l s.pos)) (by omega)
  clear hf1 hs1
  go_wp2_with fail
  refine (nmD_calls S M l ⟨stepD l s.pos, s.left⟩ _ HA1.out.src).mono ?_
  rintro e w2 ⟨rfl, hf2, hs2⟩
  have HA2 := Lib.hid (HA1.out.go hsl hf2 hs2)
  clear hf2 hs2
  go_wp2_with fail
  refine (exprsD_calls S M l (1) (by omega) ⟨stepD l (stepD l s.pos), s.left⟩ _ HA2.out.src).mono ?_
  rintro e w3 ⟨v3, rfl, hf3, hs3, he3⟩
  have HA3 := Lib.hid (HA2.out.go hsl hf3 hs3)
  obtain ⟨A3, c3, rfl⟩ := he3.slice
  have PE3 := Lib.hid (he3.keep (R' := Qn w1.heap.size w3) (fun b hb => ⟨by have := HA2.out.lt2; have := hb.1; omega, hb.2⟩) fun _ _ _ => rfl)
  clear he3
  clear hf3 hs3
  obtain ⟨k0, k1, k2, k3, k4, k5, k6, k7⟩ := HA3.out.x.at_
  obtain ⟨z0, z1, z2, z3, z4, z5, z6, z7⟩ := HA3.out.z.at_
  have fx := HA3.out.x.free
  have fz := HA3.out.z.free
  have hne1 : w.heap.size ≠ w1.heap.size := by omega
  have hne2 : w1.heap.size ≠ w.heap.size := by omega
  have HB0 := Lib.hid (At.of HA3.out hM (j := 2) (BX.set2 HA3.out.x (nameD l (stepD l s.pos))))
  have PEs0 := Lib.hid (Qn.set PE3.out 2 (.string (B (nameD l (stepD l s.pos)))))
  have HB1 := Lib.hid (At.of HB0.out hM (j := 5) (BX.set5 HB0.out.x (.slice A3 (exprsD l 1 (stepD l (stepD l s.pos))).1.length c3)))
  have PEs1 := Lib.hid (Qn.set PEs0.out 5 (.slice A3 (exprsD l 1 (stepD l (stepD l s.pos))).1.length c3))
  go_wp2_with fail
  obtain ⟨t0, t1, t2, t3, t4, t5, t6, t7⟩ := BX.at_ (BX.putT HB1.out.z (⟨2, 0, nameD l (stepD l s.pos), 0, [], (exprsD l 1 (stepD l (stepD l s.pos))).1, [], []⟩) (.slice A3 (exprsD l 1 (stepD l (stepD l s.pos))).1.length c3) (.slice none 0 0) (.slice none 0 0))
  simp only at t0 t1 t2 t3 t4 t5 t6 t7
  clear k0 k1 k2 k3 k4 k5 k6 k7 z0 z1 z2 z3 z4 z5 z6 z7 fx fz
  refine bodyPost_ret (v := sV (⟨2, 0, nameD l (stepD l s.pos), 0, [], (exprsD l 1 (stepD l (stepD l s.pos))).1, [], []⟩) (.slice A3 (exprsD l 1 (stepD l (stepD l s.pos))).1.length c3) (.slice none 0 0) (.slice none 0 0)) (by simp [results, Tryd.results101, go_sem, t0, t1, t2, t3, t4, t5, t6, t7]) rfl ?_
  rw [HX.out]
  exact st_fin hM HB1.out.fr HB1.out.src ⟨⟨by unfold okI; simp, by unfold okI; simp, by unfold okI; simp only; omega, (by have := nameD_len l (stepD l s.pos); simp only; omega), by simp⟩, (PEs1.out.keep (fun b hb => ⟨by have := hb.1; omega, hb.2⟩) fun _ _ _ => rfl), SR.nil _ _, SR.nil _ _⟩
set_option maxRecDepth 100000 in
set_option maxHeartbeats 4000000 in
theorem st_k3 (hk : nextD l 10 s.pos = 2) : Calls Tryd.prog 101 #[.pointer (some ⟨S, 0, none⟩), .int .i64 H] w (StR w S M l (stD l (blockD l h) s)) := by
  have HS := Lib.hid hs
  have HK := Lib.hid hk
  have _hh := hh
  have hH1 : 1 ≤ H := by omega
  have hH3 : H ≤ 3 := by omega
  have HX := Lib.hid (show stD l (blockD l h) s = (⟨3, 0, nameD l (stepD l s.pos), 0, [], (exprsD l 2 (stepD l (stepD l s.pos))).1, [], []⟩, ⟨(exprsD l 2 (stepD l (stepD l s.pos))).2, s.left⟩) by simp [stD, hk])
  have hsl := hs.slt
  have hM := hs.le
  clear hs hk hH 
  go_enter Tryd.func101, Tryd.ntmps101
  go_wp2_with fail
  refine (next_calls S M l s 10 (by omega) (by omega) _ (HS.out.bel (bal _ _))).mono ?_
  rintro e w1 ⟨rfl, hf1, hs1⟩
  rw [HK.out]
  have hz1 : w.heap.size < w1.heap.size := by have := hf1.size; simp at this; omega
  have HA1 := Lib.hid (show At w S M l w1.heap.size ⟨stepD l s.pos, s.left⟩ ⟨3, 0, [], 0, [], [], [], []⟩ (.slice none 0 0) (.slice none 0 0) (.slice none 0 0) (w1.alloc (sO ⟨3, 0, [], 0, [], [], [], []⟩ (.slice none 0 0) (.slice none 0 0) (.slice none 0 0))) from
    ⟨((Fr.of (N := S) (S := S) (bal w _)).trans hf1).trans (Fr.of (bal _ _)), hs1.bel (bal _ _), ((BX.new w ⟨0, 0, [], 0, [], [], [], []⟩ (.slice none 0 0) (.slice none 0 0) (.slice none 0 0)).fr hf1 (by omega) (by omega)).bel (bal _ _) hz1, BX.new _ _ _ _ _, hz1, by simp⟩)
  have hW1 : S ≤ w1.heap.size := by omega
  have k0 := HA1.out.x.at_.c0
  have hn3 := nextD_lt l (n := 3) (stepD l (stepD l s.pos)) (by omega)
  clear hf1 hs1
  go_wp2_with fail
  refine (nmD_calls S M l ⟨stepD l s.pos, s.left⟩ _ HA1.out.src).mono ?_
  rintro e w2 ⟨rfl, hf2, hs2⟩
  have HA2 := Lib.hid (HA1.out.go hsl hf2 hs2)
  clear hf2 hs2
  go_wp2_with fail
  refine (exprsD_calls S M l (2) (by omega) ⟨stepD l (stepD l s.pos), s.left⟩ _ HA2.out.src).mono ?_
  rintro e w3 ⟨v3, rfl, hf3, hs3, he3⟩
  have HA3 := Lib.hid (HA2.out.go hsl hf3 hs3)
  obtain ⟨A3, c3, rfl⟩ := he3.slice
  have PE3 := Lib.hid (he3.keep (R' := Qn w1.heap.size w3) (fun b hb => ⟨by have := HA2.out.lt2; have := hb.1; omega, hb.2⟩) fun _ _ _ => rfl)
  clear he3
  clear hf3 hs3
  obtain ⟨k0, k1, k2, k3, k4, k5, k6, k7⟩ := HA3.out.x.at_
  obtain ⟨z0, z1, z2, z3, z4, z5, z6, z7⟩ := HA3.out.z.at_
  have fx := HA3.out.x.free
  have fz := HA3.out.z.free
  have hne1 : w.heap.size ≠ w1.heap.size := by omega
  have hne2 : w1.heap.size ≠ w.heap.size := by omega
  have HB0 := Lib.hid (At.of HA3.out hM (j := 2) (BX.set2 HA3.out.x (nameD l (stepD l s.pos))))
  have PEs0 := Lib.hid (Qn.set PE3.out 2 (.string (B (nameD l (stepD l s.pos)))))
  have HB1 := Lib.hid (At.of HB0.out hM (j := 5) (BX.set5 HB0.out.x (.slice A3 (exprsD l 2 (stepD l (stepD l s.pos))).1.length c3)))
  have PEs1 := Lib.hid (Qn.set PEs0.out 5 (.slice A3 (exprsD l 2 (stepD l (stepD l s.pos))).1.length c3))
  go_wp2_with fail
  obtain ⟨t0, t1, t2, t3, t4, t5, t6, t7⟩ := BX.at_ (BX.putT HB1.out.z (⟨3, 0, nameD l (stepD l s.pos), 0, [], (exprsD l 2 (stepD l (stepD l s.pos))).1, [], []⟩) (.slice A3 (exprsD l 2 (stepD l (stepD l s.pos))).1.length c3) (.slice none 0 0) (.slice none 0 0))
  simp only at t0 t1 t2 t3 t4 t5 t6 t7
  clear k0 k1 k2 k3 k4 k5 k6 k7 z0 z1 z2 z3 z4 z5 z6 z7 fx fz
  refine bodyPost_ret (v := sV (⟨3, 0, nameD l (stepD l s.pos), 0, [], (exprsD l 2 (stepD l (stepD l s.pos))).1, [], []⟩) (.slice A3 (exprsD l 2 (stepD l (stepD l s.pos))).1.length c3) (.slice none 0 0) (.slice none 0 0)) (by simp [results, Tryd.results101, go_sem, t0, t1, t2, t3, t4, t5, t6, t7]) rfl ?_
  rw [HX.out]
  exact st_fin hM HB1.out.fr HB1.out.src ⟨⟨by unfold okI; simp, by unfold okI; simp, by unfold okI; simp only; omega, (by have := nameD_len l (stepD l s.pos); simp only; omega), by simp⟩, (PEs1.out.keep (fun b hb => ⟨by have := hb.1; omega, hb.2⟩) fun _ _ _ => rfl), SR.nil _ _, SR.nil _ _⟩
set_option maxRecDepth 100000 in
set_option maxHeartbeats 4000000 in
theorem st_k4 (hk : nextD l 10 s.pos = 3) : Calls Tryd.prog 101 #[.pointer (some ⟨S, 0, none⟩), .int .i64 H] w (StR w S M l (stD l (blockD l h) s)) := by
  have HS := Lib.hid hs
  have HK := Lib.hid hk
  have _hh := hh
  have hH1 : 1 ≤ H := by omega
  have hH3 : H ≤ 3 := by omega
  have HX := Lib.hid (show stD l (blockD l h) s = (⟨4, 0, nameD l (stepD l s.pos), 0, [], (exprsD l 1 (stepD l (stepD l s.pos))).1, [], []⟩, ⟨(exprsD l 1 (stepD l (stepD l s.pos))).2, s.left⟩) by simp [stD, hk])
  have hsl := hs.slt
  have hM := hs.le
  clear hs hk hH 
  go_enter Tryd.func101, Tryd.ntmps101
  go_wp2_with fail
  refine (next_calls S M l s 10 (by omega) (by omega) _ (HS.out.bel (bal _ _))).mono ?_
  rintro e w1 ⟨rfl, hf1, hs1⟩
  rw [HK.out]
  have hz1 : w.heap.size < w1.heap.size := by have := hf1.size; simp at this; omega
  have HA1 := Lib.hid (show At w S M l w1.heap.size ⟨stepD l s.pos, s.left⟩ ⟨4, 0, [], 0, [], [], [], []⟩ (.slice none 0 0) (.slice none 0 0) (.slice none 0 0) (w1.alloc (sO ⟨4, 0, [], 0, [], [], [], []⟩ (.slice none 0 0) (.slice none 0 0) (.slice none 0 0))) from
    ⟨((Fr.of (N := S) (S := S) (bal w _)).trans hf1).trans (Fr.of (bal _ _)), hs1.bel (bal _ _), ((BX.new w ⟨0, 0, [], 0, [], [], [], []⟩ (.slice none 0 0) (.slice none 0 0) (.slice none 0 0)).fr hf1 (by omega) (by omega)).bel (bal _ _) hz1, BX.new _ _ _ _ _, hz1, by simp⟩)
  have hW1 : S ≤ w1.heap.size := by omega
  have k0 := HA1.out.x.at_.c0
  have hn3 := nextD_lt l (n := 3) (stepD l (stepD l s.pos)) (by omega)
  clear hf1 hs1
  go_wp2_with fail
  refine (nmD_calls S M l ⟨stepD l s.pos, s.left⟩ _ HA1.out.src).mono ?_
  rintro e w2 ⟨rfl, hf2, hs2⟩
  have HA2 := Lib.hid (HA1.out.go hsl hf2 hs2)
  clear hf2 hs2
  go_wp2_with fail
  refine (exprsD_calls S M l (1) (by omega) ⟨stepD l (stepD l s.pos), s.left⟩ _ HA2.out.src).mono ?_
  rintro e w3 ⟨v3, rfl, hf3, hs3, he3⟩
  have HA3 := Lib.hid (HA2.out.go hsl hf3 hs3)
  obtain ⟨A3, c3, rfl⟩ := he3.slice
  have PE3 := Lib.hid (he3.keep (R' := Qn w1.heap.size w3) (fun b hb => ⟨by have := HA2.out.lt2; have := hb.1; omega, hb.2⟩) fun _ _ _ => rfl)
  clear he3
  clear hf3 hs3
  obtain ⟨k0, k1, k2, k3, k4, k5, k6, k7⟩ := HA3.out.x.at_
  obtain ⟨z0, z1, z2, z3, z4, z5, z6, z7⟩ := HA3.out.z.at_
  have fx := HA3.out.x.free
  have fz := HA3.out.z.free
  have hne1 : w.heap.size ≠ w1.heap.size := by omega
  have hne2 : w1.heap.size ≠ w.heap.size := by omega
  have HB0 := Lib.hid (At.of HA3.out hM (j := 2) (BX.set2 HA3.out.x (nameD l (stepD l s.pos))))
  have PEs0 := Lib.hid (Qn.set PE3.out 2 (.string (B (nameD l (stepD l s.pos)))))
  have HB1 := Lib.hid (At.of HB0.out hM (j := 5) (BX.set5 HB0.out.x (.slice A3 (exprsD l 1 (stepD l (stepD l s.pos))).1.length c3)))
  have PEs1 := Lib.hid (Qn.set PEs0.out 5 (.slice A3 (exprsD l 1 (stepD l (stepD l s.pos))).1.length c3))
  go_wp2_with fail
  obtain ⟨t0, t1, t2, t3, t4, t5, t6, t7⟩ := BX.at_ (BX.putT HB1.out.z (⟨4, 0, nameD l (stepD l s.pos), 0, [], (exprsD l 1 (stepD l (stepD l s.pos))).1, [], []⟩) (.slice A3 (exprsD l 1 (stepD l (stepD l s.pos))).1.length c3) (.slice none 0 0) (.slice none 0 0))
  simp only at t0 t1 t2 t3 t4 t5 t6 t7
  clear k0 k1 k2 k3 k4 k5 k6 k7 z0 z1 z2 z3 z4 z5 z6 z7 fx fz
  refine bodyPost_ret (v := sV (⟨4, 0, nameD l (stepD l s.pos), 0, [], (exprsD l 1 (stepD l (stepD l s.pos))).1, [], []⟩) (.slice A3 (exprsD l 1 (stepD l (stepD l s.pos))).1.length c3) (.slice none 0 0) (.slice none 0 0)) (by simp [results, Tryd.results101, go_sem, t0, t1, t2, t3, t4, t5, t6, t7]) rfl ?_
  rw [HX.out]
  exact st_fin hM HB1.out.fr HB1.out.src ⟨⟨by unfold okI; simp, by unfold okI; simp, by unfold okI; simp only; omega, (by have := nameD_len l (stepD l s.pos); simp only; omega), by simp⟩, (PEs1.out.keep (fun b hb => ⟨by have := hb.1; omega, hb.2⟩) fun _ _ _ => rfl), SR.nil _ _, SR.nil _ _⟩
set_option maxRecDepth 100000 in
set_option maxHeartbeats 4000000 in
theorem st_k5 (hk : nextD l 10 s.pos = 4) : Calls Tryd.prog 101 #[.pointer (some ⟨S, 0, none⟩), .int .i64 H] w (StR w S M l (stD l (blockD l h) s)) := by
  have HS := Lib.hid hs
  have HK := Lib.hid hk
  have _hh := hh
  have hH1 : 1 ≤ H := by omega
  have hH3 : H ≤ 3 := by omega
  have HX := Lib.hid (show stD l (blockD l h) s = (⟨5, 0, nameD l (stepD l s.pos), 0, [], [], [], []⟩, ⟨stepD l (stepD l s.pos), s.left⟩) by simp [stD, hk])
  have hsl := hs.slt
  have hM := hs.le
  clear hs hk hH 
  go_enter Tryd.func101, Tryd.ntmps101
  go_wp2_with fail
  refine (next_calls S M l s 10 (by omega) (by omega) _ (HS.out.bel (bal _ _))).mono ?_
  rintro e w1 ⟨rfl, hf1, hs1⟩
  rw [HK.out]
  have hz1 : w.heap.size < w1.heap.size := by have := hf1.size; simp at this; omega
  have HA1 := Lib.hid (show At w S M l w1.heap.size ⟨stepD l s.pos, s.left⟩ ⟨5, 0, [], 0, [], [], [], []⟩ (.slice none 0 0) (.slice none 0 0) (.slice none 0 0) (w1.alloc (sO ⟨5, 0, [], 0, [], [], [], []⟩ (.slice none 0 0) (.slice none 0 0) (.slice none 0 0))) from
    ⟨((Fr.of (N := S) (S := S) (bal w _)).trans hf1).trans (Fr.of (bal _ _)), hs1.bel (bal _ _), ((BX.new w ⟨0, 0, [], 0, [], [], [], []⟩ (.slice none 0 0) (.slice none 0 0) (.slice none 0 0)).fr hf1 (by omega) (by omega)).bel (bal _ _) hz1, BX.new _ _ _ _ _, hz1, by simp⟩)
  have hW1 : S ≤ w1.heap.size := by omega
  have k0 := HA1.out.x.at_.c0
  have hn3 := nextD_lt l (n := 3) (stepD l (stepD l s.pos)) (by omega)
  clear hf1 hs1
  go_wp2_with fail
  refine (nmD_calls S M l ⟨stepD l s.pos, s.left⟩ _ HA1.out.src).mono ?_
  rintro e w2 ⟨rfl, hf2, hs2⟩
  have HA2 := Lib.hid (HA1.out.go hsl hf2 hs2)
  clear hf2 hs2
  obtain ⟨k0, k1, k2, k3, k4, k5, k6, k7⟩ := HA2.out.x.at_
  obtain ⟨z0, z1, z2, z3, z4, z5, z6, z7⟩ := HA2.out.z.at_
  have fx := HA2.out.x.free
  have fz := HA2.out.z.free
  have hne1 : w.heap.size ≠ w1.heap.size := by omega
  have hne2 : w1.heap.size ≠ w.heap.size := by omega
  have HB0 := Lib.hid (At.of HA2.out hM (j := 2) (BX.set2 HA2.out.x (nameD l (stepD l s.pos))))
  go_wp2_with fail
  obtain ⟨t0, t1, t2, t3, t4, t5, t6, t7⟩ := BX.at_ (BX.putT HB0.out.z (⟨5, 0, nameD l (stepD l s.pos), 0, [], [], [], []⟩) (.slice none 0 0) (.slice none 0 0) (.slice none 0 0))
  simp only at t0 t1 t2 t3 t4 t5 t6 t7
  clear k0 k1 k2 k3 k4 k5 k6 k7 z0 z1 z2 z3 z4 z5 z6 z7 fx fz
  refine bodyPost_ret (v := sV (⟨5, 0, nameD l (stepD l s.pos), 0, [], [], [], []⟩) (.slice none 0 0) (.slice none 0 0) (.slice none 0 0)) (by simp [results, Tryd.results101, go_sem, t0, t1, t2, t3, t4, t5, t6, t7]) rfl ?_
  rw [HX.out]
  exact st_fin hM HB0.out.fr HB0.out.src ⟨⟨by unfold okI; simp, by unfold okI; simp, by unfold okI; simp only; omega, (by have := nameD_len l (stepD l s.pos); simp only; omega), by simp⟩, ER.nil _ _, SR.nil _ _, SR.nil _ _⟩
set_option maxRecDepth 100000 in
set_option maxHeartbeats 4000000 in
theorem st_k6 (hk : nextD l 10 s.pos = 5) : Calls Tryd.prog 101 #[.pointer (some ⟨S, 0, none⟩), .int .i64 H] w (StR w S M l (stD l (blockD l h) s)) := by
  have HS := Lib.hid hs
  have HK := Lib.hid hk
  have _hh := hh
  have hH1 : 1 ≤ H := by omega
  have hH3 : H ≤ 3 := by omega
  have HX := Lib.hid (show stD l (blockD l h) s = (⟨6, 0, [], 0, [], (exprsD l 1 (stepD l s.pos)).1, [], []⟩, ⟨(exprsD l 1 (stepD l s.pos)).2, s.left⟩) by simp [stD, hk])
  have hsl := hs.slt
  have hM := hs.le
  clear hs hk hH 
  go_enter Tryd.func101, Tryd.ntmps101
  go_wp2_with fail
  refine (next_calls S M l s 10 (by omega) (by omega) _ (HS.out.bel (bal _ _))).mono ?_
  rintro e w1 ⟨rfl, hf1, hs1⟩
  rw [HK.out]
  have hz1 : w.heap.size < w1.heap.size := by have := hf1.size; simp at this; omega
  have HA1 := Lib.hid (show At w S M l w1.heap.size ⟨stepD l s.pos, s.left⟩ ⟨6, 0, [], 0, [], [], [], []⟩ (.slice none 0 0) (.slice none 0 0) (.slice none 0 0) (w1.alloc (sO ⟨6, 0, [], 0, [], [], [], []⟩ (.slice none 0 0) (.slice none 0 0) (.slice none 0 0))) from
    ⟨((Fr.of (N := S) (S := S) (bal w _)).trans hf1).trans (Fr.of (bal _ _)), hs1.bel (bal _ _), ((BX.new w ⟨0, 0, [], 0, [], [], [], []⟩ (.slice none 0 0) (.slice none 0 0) (.slice none 0 0)).fr hf1 (by omega) (by omega)).bel (bal _ _) hz1, BX.new _ _ _ _ _, hz1, by simp⟩)
  have hW1 : S ≤ w1.heap.size := by omega
  have k0 := HA1.out.x.at_.c0
  have hn3 := nextD_lt l (n := 3) (stepD l (stepD l s.pos)) (by omega)
  clear hf1 hs1
  go_wp2_with fail
  refine (exprsD_calls S M l (1) (by omega) ⟨stepD l s.pos, s.left⟩ _ HA1.out.src).mono ?_
  rintro e w2 ⟨v2, rfl, hf2, hs2, he2⟩
  have HA2 := Lib.hid (HA1.out.go hsl hf2 hs2)
  obtain ⟨A2, c2, rfl⟩ := he2.slice
  have PE2 := Lib.hid (he2.keep (R' := Qn w1.heap.size w2) (fun b hb => ⟨by have := HA1.out.lt2; have := hb.1; omega, hb.2⟩) fun _ _ _ => rfl)
  clear he2
  clear hf2 hs2
  obtain ⟨k0, k1, k2, k3, k4, k5, k6, k7⟩ := HA2.out.x.at_
  obtain ⟨z0, z1, z2, z3, z4, z5, z6, z7⟩ := HA2.out.z.at_
  have fx := HA2.out.x.free
  have fz := HA2.out.z.free
  have hne1 : w.heap.size ≠ w1.heap.size := by omega
  have hne2 : w1.heap.size ≠ w.heap.size := by omega
  have HB0 := Lib.hid (At.of HA2.out hM (j := 5) (BX.set5 HA2.out.x (.slice A2 (exprsD l 1 (stepD l s.pos)).1.length c2)))
  have PEs0 := Lib.hid (Qn.set PE2.out 5 (.slice A2 (exprsD l 1 (stepD l s.pos)).1.length c2))
  go_wp2_with fail
  obtain ⟨t0, t1, t2, t3, t4, t5, t6, t7⟩ := BX.at_ (BX.putT HB0.out.z (⟨6, 0, [], 0, [], (exprsD l 1 (stepD l s.pos)).1, [], []⟩) (.slice A2 (exprsD l 1 (stepD l s.pos)).1.length c2) (.slice none 0 0) (.slice none 0 0))
  simp only at t0 t1 t2 t3 t4 t5 t6 t7
  clear k0 k1 k2 k3 k4 k5 k6 k7 z0 z1 z2 z3 z4 z5 z6 z7 fx fz
  refine bodyPost_ret (v := sV (⟨6, 0, [], 0, [], (exprsD l 1 (stepD l s.pos)).1, [], []⟩) (.slice A2 (exprsD l 1 (stepD l s.pos)).1.length c2) (.slice none 0 0) (.slice none 0 0)) (by simp [results, Tryd.results101, go_sem, t0, t1, t2, t3, t4, t5, t6, t7]) rfl ?_
  rw [HX.out]
  exact st_fin hM HB0.out.fr HB0.out.src ⟨⟨by unfold okI; simp, by unfold okI; simp, by unfold okI; simp only; omega, (by simp), by simp⟩, (PEs0.out.keep (fun b hb => ⟨by have := hb.1; omega, hb.2⟩) fun _ _ _ => rfl), SR.nil _ _, SR.nil _ _⟩
set_option maxRecDepth 100000 in
set_option maxHeartbeats 4000000 in
theorem st_k8 (hk : nextD l 10 s.pos = 7) : Calls Tryd.prog 101 #[.pointer (some ⟨S, 0, none⟩), .int .i64 H] w (StR w S M l (stD l (blockD l h) s)) := by
  have HS := Lib.hid hs
  have HK := Lib.hid hk
  have _hh := hh
  have hH1 : 1 ≤ H := by omega
  have hH3 : H ≤ 3 := by omega
  have HX := Lib.hid (show stD l (blockD l h) s = (⟨8, 0, [], 0, [], (exprsD l (nextD l 2 (stepD l s.pos)) (stepD l (stepD l s.pos))).1, [], []⟩, ⟨(exprsD l (nextD l 2 (stepD l s.pos)) (stepD l (stepD l s.pos))).2, s.left⟩) by simp [stD, hk])
  have hsl := hs.slt
  have hM := hs.le
  clear hs hk hH 
  go_enter Tryd.func101, Tryd.ntmps101
  go_wp2_with fail
  refine (next_calls S M l s 10 (by omega) (by omega) _ (HS.out.bel (bal _ _))).mono ?_
  rintro e w1 ⟨rfl, hf1, hs1⟩
  rw [HK.out]
  have hz1 : w.heap.size < w1.heap.size := by have := hf1.size; simp at this; omega
  have HA1 := Lib.hid (show At w S M l w1.heap.size ⟨stepD l s.pos, s.left⟩ ⟨8, 0, [], 0, [], [], [], []⟩ (.slice none 0 0) (.slice none 0 0) (.slice none 0 0) (w1.alloc (sO ⟨8, 0, [], 0, [], [], [], []⟩ (.slice none 0 0) (.slice none 0 0) (.slice none 0 0))) from
    ⟨((Fr.of (N := S) (S := S) (bal w _)).trans hf1).trans (Fr.of (bal _ _)), hs1.bel (bal _ _), ((BX.new w ⟨0, 0, [], 0, [], [], [], []⟩ (.slice none 0 0) (.slice none 0 0) (.slice none 0 0)).fr hf1 (by omega) (by omega)).bel (bal _ _) hz1, BX.new _ _ _ _ _, hz1, by simp⟩)
  have hW1 : S ≤ w1.heap.size := by omega
  have k0 := HA1.out.x.at_.c0
  have hn3 := nextD_lt l (n := 3) (stepD l (stepD l s.pos)) (by omega)
  clear hf1 hs1
  go_wp2_with fail
  refine (next_calls S M l ⟨stepD l s.pos, s.left⟩ 2 (by omega) (by omega) _ HA1.out.src).mono ?_
  rintro e w2 ⟨rfl, hf2, hs2⟩
  have HA2 := Lib.hid (HA1.out.go hsl hf2 hs2)
  clear hf2 hs2
  go_wp2_with fail
  refine (exprsD_calls S M l (nextD l 2 (stepD l s.pos)) (by have := nextD_lt l (n := 2) (stepD l s.pos) (by omega); omega) ⟨stepD l (stepD l s.pos), s.left⟩ _ HA2.out.src).mono ?_
  rintro e w3 ⟨v3, rfl, hf3, hs3, he3⟩
  have HA3 := Lib.hid (HA2.out.go hsl hf3 hs3)
  obtain ⟨A3, c3, rfl⟩ := he3.slice
  have PE3 := Lib.hid (he3.keep (R' := Qn w1.heap.size w3) (fun b hb => ⟨by have := HA2.out.lt2; have := hb.1; omega, hb.2⟩) fun _ _ _ => rfl)
  clear he3
  clear hf3 hs3
  obtain ⟨k0, k1, k2, k3, k4, k5, k6, k7⟩ := HA3.out.x.at_
  obtain ⟨z0, z1, z2, z3, z4, z5, z6, z7⟩ := HA3.out.z.at_
  have fx := HA3.out.x.free
  have fz := HA3.out.z.free
  have hne1 : w.heap.size ≠ w1.heap.size := by omega
  have hne2 : w1.heap.size ≠ w.heap.size := by omega
  have HB0 := Lib.hid (At.of HA3.out hM (j := 5) (BX.set5 HA3.out.x (.slice A3 (exprsD l (nextD l 2 (stepD l s.pos)) (stepD l (stepD l s.pos))).1.length c3)))
  have PEs0 := Lib.hid (Qn.set PE3.out 5 (.slice A3 (exprsD l (nextD l 2 (stepD l s.pos)) (stepD l (stepD l s.pos))).1.length c3))
  go_wp2_with fail
  obtain ⟨t0, t1, t2, t3, t4, t5, t6, t7⟩ := BX.at_ (BX.putT HB0.out.z (⟨8, 0, [], 0, [], (exprsD l (nextD l 2 (stepD l s.pos)) (stepD l (stepD l s.pos))).1, [], []⟩) (.slice A3 (exprsD l (nextD l 2 (stepD l s.pos)) (stepD l (stepD l s.pos))).1.length c3) (.slice none 0 0) (.slice none 0 0))
  simp only at t0 t1 t2 t3 t4 t5 t6 t7
  clear k0 k1 k2 k3 k4 k5 k6 k7 z0 z1 z2 z3 z4 z5 z6 z7 fx fz
  refine bodyPost_ret (v := sV (⟨8, 0, [], 0, [], (exprsD l (nextD l 2 (stepD l s.pos)) (stepD l (stepD l s.pos))).1, [], []⟩) (.slice A3 (exprsD l (nextD l 2 (stepD l s.pos)) (stepD l (stepD l s.pos))).1.length c3) (.slice none 0 0) (.slice none 0 0)) (by simp [results, Tryd.results101, go_sem, t0, t1, t2, t3, t4, t5, t6, t7]) rfl ?_
  rw [HX.out]
  exact st_fin hM HB0.out.fr HB0.out.src ⟨⟨by unfold okI; simp, by unfold okI; simp, by unfold okI; simp only; omega, (by simp), by simp⟩, (PEs0.out.keep (fun b hb => ⟨by have := hb.1; omega, hb.2⟩) fun _ _ _ => rfl), SR.nil _ _, SR.nil _ _⟩
set_option maxRecDepth 100000 in
set_option maxHeartbeats 4000000 in
theorem st_k9 (hk : nextD l 10 s.pos = 8) (ihb : ∀ (s : Sr) (w : World), SrcAt w S M l s → Calls Tryd.prog 90 #[.pointer (some ⟨S, 0, none⟩), .int .i64 (H - 1)] w (BlkR w S M l (blockD l h s))) : Calls Tryd.prog 101 #[.pointer (some ⟨S, 0, none⟩), .int .i64 H] w (StR w S M l (stD l (blockD l h) s)) := by
  have HS := Lib.hid hs
  have HK := Lib.hid hk
  have IHB := Lib.hid ihb
  have hH1 : 1 ≤ H := by omega
  have hH3 : H ≤ 3 := by omega
  have HX := Lib.hid (show stD l (blockD l h) s = (⟨9, 0, [], 0, [], (exprsD l 1 (stepD l s.pos)).1, (blockD l h ⟨(exprsD l 1 (stepD l s.pos)).2, s.left⟩).1, (blockD l h (blockD l h ⟨(exprsD l 1 (stepD l s.pos)).2, s.left⟩).2).1⟩, (blockD l h (blockD l h ⟨(exprsD l 1 (stepD l s.pos)).2, s.left⟩).2).2) by simp [stD, hk])
  have hsl := hs.slt
  have hM := hs.le
  clear hs hk hH ihb
  go_enter Tryd.func101, Tryd.ntmps101
  go_wp2_with fail
  refine (next_calls S M l s 10 (by omega) (by omega) _ (HS.out.bel (bal _ _))).mono ?_
  rintro e w1 ⟨rfl, hf1, hs1⟩
  rw [HK.out]
  have hz1 : w.heap.size < w1.heap.size := by have := hf1.size; simp at this; omega
  have HA1 := Lib.hid (show At w S M l w1.heap.size ⟨stepD l s.pos, s.left⟩ ⟨9, 0, [], 0, [], [], [], []⟩ (.slice none 0 0) (.slice none 0 0) (.slice none 0 0) (w1.alloc (sO ⟨9, 0, [], 0, [], [], [], []⟩ (.slice none 0 0) (.slice none 0 0) (.slice none 0 0))) from
    ⟨((Fr.of (N := S) (S := S) (bal w _)).trans hf1).trans (Fr.of (bal _ _)), hs1.bel (bal _ _), ((BX.new w ⟨0, 0, [], 0, [], [], [], []⟩ (.slice none 0 0) (.slice none 0 0) (.slice none 0 0)).fr hf1 (by omega) (by omega)).bel (bal _ _) hz1, BX.new _ _ _ _ _, hz1, by simp⟩)
  have hW1 : S ≤ w1.heap.size := by omega
  have k0 := HA1.out.x.at_.c0
  have hn3 := nextD_lt l (n := 3) (stepD l (stepD l s.pos)) (by omega)
  clear hf1 hs1
  go_wp2_with fail
  refine (exprsD_calls S M l (1) (by omega) ⟨stepD l s.pos, s.left⟩ _ HA1.out.src).mono ?_
  rintro e w2 ⟨v2, rfl, hf2, hs2, he2⟩
  have HA2 := Lib.hid (HA1.out.go hsl hf2 hs2)
  obtain ⟨A2, c2, rfl⟩ := he2.slice
  have PE2 := Lib.hid (he2.keep (R' := Qn w1.heap.size w2) (fun b hb => ⟨by have := HA1.out.lt2; have := hb.1; omega, hb.2⟩) fun _ _ _ => rfl)
  clear he2
  clear hf2 hs2
  go_wp2_with fail
  refine (IHB.out ⟨(exprsD l 1 (stepD l s.pos)).2, s.left⟩ _ HA2.out.src).mono ?_
  rintro e w3 ⟨v3, rfl, hf3, hs3, hg3⟩
  have HA3 := Lib.hid (HA2.out.go hsl hf3 hs3)
  have PE3 := Lib.hid (Qn.fr PE2.out hW1 hf3)
  have hr3 := hg3.1.sr (by have := blockD_len l h ⟨(exprsD l 1 (stepD l s.pos)).2, s.left⟩; omega)
  obtain ⟨A3, c3, rfl⟩ := hr3.slice
  have PB3 := Lib.hid (hr3.keep (R' := Qn w1.heap.size w3) (fun b hb => ⟨by have := HA2.out.lt2; have := hb.1; omega, hb.2⟩) fun _ _ _ => rfl)
  clear hr3 hg3
  clear hf3 hs3
  go_wp2_with fail
  refine (IHB.out (blockD l h ⟨(exprsD l 1 (stepD l s.pos)).2, s.left⟩).2 _ HA3.out.src).mono ?_
  rintro e w4 ⟨v4, rfl, hf4, hs4, hg4⟩
  have HA4 := Lib.hid (HA3.out.go hsl hf4 hs4)
  have PE4 := Lib.hid (Qn.fr PE3.out hW1 hf4)
  have PB4 := Lib.hid (Qn.frS PB3.out hW1 hf4)
  have hr4 := hg4.1.sr (by have := blockD_len l h (blockD l h ⟨(exprsD l 1 (stepD l s.pos)).2, s.left⟩).2; omega)
  obtain ⟨A4, c4, rfl⟩ := hr4.slice
  have PC4 := Lib.hid (hr4.keep (R' := Qn w1.heap.size w4) (fun b hb => ⟨by have := HA3.out.lt2; have := hb.1; omega, hb.2⟩) fun _ _ _ => rfl)
  clear hr4 hg4
  clear hf4 hs4
  obtain ⟨k0, k1, k2, k3, k4, k5, k6, k7⟩ := HA4.out.x.at_
  obtain ⟨z0, z1, z2, z3, z4, z5, z6, z7⟩ := HA4.out.z.at_
  have fx := HA4.out.x.free
  have fz := HA4.out.z.free
  have hne1 : w.heap.size ≠ w1.heap.size := by omega
  have hne2 : w1.heap.size ≠ w.heap.size := by omega
  have HB0 := Lib.hid (At.of HA4.out hM (j := 5) (BX.set5 HA4.out.x (.slice A2 (exprsD l 1 (stepD l s.pos)).1.length c2)))
  have PEs0 := Lib.hid (Qn.set PE4.out 5 (.slice A2 (exprsD l 1 (stepD l s.pos)).1.length c2))
  have PBs0 := Lib.hid (Qn.setS PB4.out 5 (.slice A2 (exprsD l 1 (stepD l s.pos)).1.length c2))
  have PCs0 := Lib.hid (Qn.setS PC4.out 5 (.slice A2 (exprsD l 1 (stepD l s.pos)).1.length c2))
  have HB1 := Lib.hid (At.of HB0.out hM (j := 6) (BX.set6 HB0.out.x (.slice A3 (blockD l h ⟨(exprsD l 1 (stepD l s.pos)).2, s.left⟩).1.length c3)))
  have PEs1 := Lib.hid (Qn.set PEs0.out 6 (.slice A3 (blockD l h ⟨(exprsD l 1 (stepD l s.pos)).2, s.left⟩).1.length c3))
  have PBs1 := Lib.hid (Qn.setS PBs0.out 6 (.slice A3 (blockD l h ⟨(exprsD l 1 (stepD l s.pos)).2, s.left⟩).1.length c3))
  have PCs1 := Lib.hid (Qn.setS PCs0.out 6 (.slice A3 (blockD l h ⟨(exprsD l 1 (stepD l s.pos)).2, s.left⟩).1.length c3))
  have HB2 := Lib.hid (At.of HB1.out hM (j := 7) (BX.set7 HB1.out.x (.slice A4 (blockD l h (blockD l h ⟨(exprsD l 1 (stepD l s.pos)).2, s.left⟩).2).1.length c4)))
  have PEs2 := Lib.hid (Qn.set PEs1.out 7 (.slice A4 (blockD l h (blockD l h ⟨(exprsD l 1 (stepD l s.pos)).2, s.left⟩).2).1.length c4))
  have PBs2 := Lib.hid (Qn.setS PBs1.out 7 (.slice A4 (blockD l h (blockD l h ⟨(exprsD l 1 (stepD l s.pos)).2, s.left⟩).2).1.length c4))
  have PCs2 := Lib.hid (Qn.setS PCs1.out 7 (.slice A4 (blockD l h (blockD l h ⟨(exprsD l 1 (stepD l s.pos)).2, s.left⟩).2).1.length c4))
  go_wp2_with fail
  obtain ⟨t0, t1, t2, t3, t4, t5, t6, t7⟩ := BX.at_ (BX.putT HB2.out.z (⟨9, 0, [], 0, [], (exprsD l 1 (stepD l s.pos)).1, (blockD l h ⟨(exprsD l 1 (stepD l s.pos)).2, s.left⟩).1, (blockD l h (blockD l h ⟨(exprsD l 1 (stepD l s.pos)).2, s.left⟩).2).1⟩) (.slice A2 (exprsD l 1 (stepD l s.pos)).1.length c2) (.slice A3 (blockD l h ⟨(exprsD l 1 (stepD l s.pos)).2, s.left⟩).1.length c3) (.slice A4 (blockD l h (blockD l h ⟨(exprsD l 1 (stepD l s.pos)).2, s.left⟩).2).1.length c4))
  simp only at t0 t1 t2 t3 t4 t5 t6 t7
  clear k0 k1 k2 k3 k4 k5 k6 k7 z0 z1 z2 z3 z4 z5 z6 z7 fx fz
  refine bodyPost_ret (v := sV (⟨9, 0, [], 0, [], (exprsD l 1 (stepD l s.pos)).1, (blockD l h ⟨(exprsD l 1 (stepD l s.pos)).2, s.left⟩).1, (blockD l h (blockD l h ⟨(exprsD l 1 (stepD l s.pos)).2, s.left⟩).2).1⟩) (.slice A2 (exprsD l 1 (stepD l s.pos)).1.length c2) (.slice A3 (blockD l h ⟨(exprsD l 1 (stepD l s.pos)).2, s.left⟩).1.length c3) (.slice A4 (blockD l h (blockD l h ⟨(exprsD l 1 (stepD l s.pos)).2, s.left⟩).2).1.length c4)) (by simp [results, Tryd.results101, go_sem, t0, t1, t2, t3, t4, t5, t6, t7]) rfl ?_
  rw [HX.out]
  exact st_fin hM HB2.out.fr HB2.out.src ⟨⟨by unfold okI; simp, by unfold okI; simp, by unfold okI; simp only; omega, (by simp), by simp⟩, (PEs2.out.keep (fun b hb => ⟨by have := hb.1; omega, hb.2⟩) fun _ _ _ => rfl), (PBs2.out.keep (fun b hb => ⟨by have := hb.1; omega, hb.2⟩) fun _ _ _ => rfl), (PCs2.out.keep (fun b hb => ⟨by have := hb.1; omega, hb.2⟩) fun _ _ _ => rfl)⟩
set_option maxRecDepth 100000 in
set_option maxHeartbeats 4000000 in
theorem st_k10 (hk : nextD l 10 s.pos = 9) (ihb : ∀ (s : Sr) (w : World), SrcAt w S M l s → Calls Tryd.prog 90 #[.pointer (some ⟨S, 0, none⟩), .int .i64 (H - 1)] w (BlkR w S M l (blockD l h s))) : Calls Tryd.prog 101 #[.pointer (some ⟨S, 0, none⟩), .int .i64 H] w (StR w S M l (stD l (blockD l h) s)) := by
  have HS := Lib.hid hs
  have HK := Lib.hid hk
  have IHB := Lib.hid ihb
  have hH1 : 1 ≤ H := by omega
  have hH3 : H ≤ 3 := by omega
  have HX := Lib.hid (show stD l (blockD l h) s = (⟨10, 0, [], 0, [], (exprsD l 1 (stepD l s.pos)).1, (blockD l h ⟨(exprsD l 1 (stepD l s.pos)).2, s.left⟩).1, []⟩, (blockD l h ⟨(exprsD l 1 (stepD l s.pos)).2, s.left⟩).2) by simp [stD, hk])
  have hsl := hs.slt
  have hM := hs.le
  clear hs hk hH ihb
  go_enter Tryd.func101, Tryd.ntmps101
  go_wp2_with fail
  refine (next_calls S M l s 10 (by omega) (by omega) _ (HS.out.bel (bal _ _))).mono ?_
  rintro e w1 ⟨rfl, hf1, hs1⟩
  rw [HK.out]
  have hz1 : w.heap.size < w1.heap.size := by have := hf1.size; simp at this; omega
  have HA1 := Lib.hid (show At w S M l w1.heap.size ⟨stepD l s.pos, s.left⟩ ⟨10, 0, [], 0, [], [], [], []⟩ (.slice none 0 0) (.slice none 0 0) (.slice none 0 0) (w1.alloc (sO ⟨10, 0, [], 0, [], [], [], []⟩ (.slice none 0 0) (.slice none 0 0) (.slice none 0 0))) from
    ⟨((Fr.of (N := S) (S := S) (bal w _)).trans hf1).trans (Fr.of (bal _ _)), hs1.bel (bal _ _), ((BX.new w ⟨0, 0, [], 0, [], [], [], []⟩ (.slice none 0 0) (.slice none 0 0) (.slice none 0 0)).fr hf1 (by omega) (by omega)).bel (bal _ _) hz1, BX.new _ _ _ _ _, hz1, by simp⟩)
  have hW1 : S ≤ w1.heap.size := by omega
  have k0 := HA1.out.x.at_.c0
  have hn3 := nextD_lt l (n := 3) (stepD l (stepD l s.pos)) (by omega)
  clear hf1 hs1
  go_wp2_with fail
  refine (exprsD_calls S M l (1) (by omega) ⟨stepD l s.pos, s.left⟩ _ HA1.out.src).mono ?_
  rintro e w2 ⟨v2, rfl, hf2, hs2, he2⟩
  have HA2 := Lib.hid (HA1.out.go hsl hf2 hs2)
  obtain ⟨A2, c2, rfl⟩ := he2.slice
  have PE2 := Lib.hid (he2.keep (R' := Qn w1.heap.size w2) (fun b hb => ⟨by have := HA1.out.lt2; have := hb.1; omega, hb.2⟩) fun _ _ _ => rfl)
  clear he2
  clear hf2 hs2
  go_wp2_with fail
  refine (IHB.out ⟨(exprsD l 1 (stepD l s.pos)).2, s.left⟩ _ HA2.out.src).mono ?_
  rintro e w3 ⟨v3, rfl, hf3, hs3, hg3⟩
  have HA3 := Lib.hid (HA2.out.go hsl hf3 hs3)
  have PE3 := Lib.hid (Qn.fr PE2.out hW1 hf3)
  have hr3 := hg3.1.sr (by have := blockD_len l h ⟨(exprsD l 1 (stepD l s.pos)).2, s.left⟩; omega)
  obtain ⟨A3, c3, rfl⟩ := hr3.slice
  have PB3 := Lib.hid (hr3.keep (R' := Qn w1.heap.size w3) (fun b hb => ⟨by have := HA2.out.lt2; have := hb.1; omega, hb.2⟩) fun _ _ _ => rfl)
  clear hr3 hg3
  clear hf3 hs3
  obtain ⟨k0, k1, k2, k3, k4, k5, k6, k7⟩ := HA3.out.x.at_
  obtain ⟨z0, z1, z2, z3, z4, z5, z6, z7⟩ := HA3.out.z.at_
  have fx := HA3.out.x.free
  have fz := HA3.out.z.free
  have hne1 : w.heap.size ≠ w1.heap.size := by omega
  have hne2 : w1.heap.size ≠ w.heap.size := by omega
  have HB0 := Lib.hid (At.of HA3.out hM (j := 5) (BX.set5 HA3.out.x (.slice A2 (exprsD l 1 (stepD l s.pos)).1.length c2)))
  have PEs0 := Lib.hid (Qn.set PE3.out 5 (.slice A2 (exprsD l 1 (stepD l s.pos)).1.length c2))
  have PBs0 := Lib.hid (Qn.setS PB3.out 5 (.slice A2 (exprsD l 1 (stepD l s.pos)).1.length c2))
  have HB1 := Lib.hid (At.of HB0.out hM (j := 6) (BX.set6 HB0.out.x (.slice A3 (blockD l h ⟨(exprsD l 1 (stepD l s.pos)).2, s.left⟩).1.length c3)))
  have PEs1 := Lib.hid (Qn.set PEs0.out 6 (.slice A3 (blockD l h ⟨(exprsD l 1 (stepD l s.pos)).2, s.left⟩).1.length c3))
  have PBs1 := Lib.hid (Qn.setS PBs0.out 6 (.slice A3 (blockD l h ⟨(exprsD l 1 (stepD l s.pos)).2, s.left⟩).1.length c3))
  go_wp2_with fail
  obtain ⟨t0, t1, t2, t3, t4, t5, t6, t7⟩ := BX.at_ (BX.putT HB1.out.z (⟨10, 0, [], 0, [], (exprsD l 1 (stepD l s.pos)).1, (blockD l h ⟨(exprsD l 1 (stepD l s.pos)).2, s.left⟩).1, []⟩) (.slice A2 (exprsD l 1 (stepD l s.pos)).1.length c2) (.slice A3 (blockD l h ⟨(exprsD l 1 (stepD l s.pos)).2, s.left⟩).1.length c3) (.slice none 0 0))
  simp only at t0 t1 t2 t3 t4 t5 t6 t7
  clear k0 k1 k2 k3 k4 k5 k6 k7 z0 z1 z2 z3 z4 z5 z6 z7 fx fz
  refine bodyPost_ret (v := sV (⟨10, 0, [], 0, [], (exprsD l 1 (stepD l s.pos)).1, (blockD l h ⟨(exprsD l 1 (stepD l s.pos)).2, s.left⟩).1, []⟩) (.slice A2 (exprsD l 1 (stepD l s.pos)).1.length c2) (.slice A3 (blockD l h ⟨(exprsD l 1 (stepD l s.pos)).2, s.left⟩).1.length c3) (.slice none 0 0)) (by simp [results, Tryd.results101, go_sem, t0, t1, t2, t3, t4, t5, t6, t7]) rfl ?_
  rw [HX.out]
  exact st_fin hM HB1.out.fr HB1.out.src ⟨⟨by unfold okI; simp, by unfold okI; simp, by unfold okI; simp only; omega, (by simp), by simp⟩, (PEs1.out.keep (fun b hb => ⟨by have := hb.1; omega, hb.2⟩) fun _ _ _ => rfl), (PBs1.out.keep (fun b hb => ⟨by have := hb.1; omega, hb.2⟩) fun _ _ _ => rfl), SR.nil _ _⟩
end
end Go.Proofs.YthiilnhiihfknaaDoor
