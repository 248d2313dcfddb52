/-
  number's closure: its contract.
-/
import Derived.Test.YthiilnhiihfknaaDoorSNu
import Derived.BigRegion
import Derived.Deep.RegionWith
import Derived.Deep.RegionHeld3
namespace Go.Proofs.YthiilnhiihfknaaDoor
open Go Go.RowKit

abbrev BF (w : World) (b : Nat) (nm : Bytes) (vp : Value) (rs : Int) (vb : Value) (ct : Int) : Prop := RowAt w b 43 5 1 [[.string (B nm), vp, .int .i64 rs, vb, .int .i64 ct]]
section
variable {w : World} {b : Nat} {nm : Bytes} {vp vb : Value} {rs ct : Int}
theorem BF.of (h : w.heap[b]? = some (.cells #[.string (B nm), vp, .int .i64 rs, vb, .int .i64 ct] 43 (0, 0))) : BF w b nm vp rs vb ct := by
  refine ⟨_, h, rfl, Nat.le_refl _, by simp, ?_⟩
  intro i r j u hr hj
  cases i with
  | zero =>
    simp at hr
    subst hr
    simpa using hj
  | succ i => simp at hr
theorem BF.at_ (h : BF w b nm vp rs vb ct) : w.cell? ⟨b, 0, none⟩ = some (.string (B nm)) ∧ w.cell? ⟨b, 1, none⟩ = some vp ∧ w.cell? ⟨b, 2, none⟩ = some (.int .i64 rs) ∧ w.cell? ⟨b, 3, none⟩ = some vb ∧ w.cell? ⟨b, 4, none⟩ = some (.int .i64 ct) := by
  have c := fun (j : Nat) u hj => h.cell (i := 0) (j := j) (u := u) rfl hj
  have c0 := c 0 _ rfl
  have c1 := c 1 _ rfl
  have c2 := c 2 _ rfl
  have c3 := c 3 _ rfl
  have c4 := c 4 _ rfl
  rw [Nat.zero_mul, Nat.zero_add] at c0 c1 c2 c3 c4
  exact ⟨c0, c1, c2, c3, c4⟩
theorem BF.set1 (h : BF w b nm vp rs vb ct) (u : Value) : BF (w.setCell ⟨b, 1, none⟩ u) b nm u rs vb ct := RowAt.set1 h (i := 0) (j := 1) (r := [.string (B nm), vp, .int .i64 rs, vb, .int .i64 ct]) rfl (by omega) u
theorem BF.set3 (h : BF w b nm vp rs vb ct) (u : Value) : BF (w.setCell ⟨b, 3, none⟩ u) b nm vp rs u ct := RowAt.set1 h (i := 0) (j := 3) (r := [.string (B nm), vp, .int .i64 rs, vb, .int .i64 ct]) rfl (by omega) u
theorem BF.set4 (h : BF w b nm vp rs vb ct) (u : Int) : BF (w.setCell ⟨b, 4, none⟩ (.int .i64 u)) b nm vp rs vb u := RowAt.set1 h (i := 0) (j := 4) (r := [.string (B nm), vp, .int .i64 rs, vb, .int .i64 ct]) rfl (by omega) _
end

abbrev numF (F Kb : Nat) : Value := .func (.func 78) #[] #[.pointer (some ⟨F, 0, none⟩), .pointer (some ⟨Kb, 0, none⟩)]
/-- Where the closure and the list of a block are read. -/
def SKp (F Kb g o : Nat) (u : Value) (W : World) : Prop := W.cell? ⟨Kb, 0, none⟩ = some (numF F Kb) ∧ W.cell? ⟨g, o, none⟩ = some u
/-- What the closure gives: statements in memory of their own get numbers. -/
structure NumO (F lo hi k : Nat) (l : List St) (n0 m : Nat) (v : Value) (nm : Bytes) (vp : Value) (rs : Int) (vb : Value) (w w' : World) : Prop where
  fo : Fo lo hi F w w'
  os : OS w' lo hi (numbL k l n0).1 v
  bf : BF w' F nm vp rs vb (m : Int)
set_option maxRecDepth 100000 in
set_option maxHeartbeats 4000000 in
theorem num1_calls (F Kb : Nat) (hFK : F ≠ Kb) (nm : Bytes) (vp : Value) (rs : Int) (vb : Value) (k : Nat) : ∀ (l : List St) (v : Value) (n0 m lo hi : Nat) (w : World), k ≤ 20 → n0 ≤ 200 → OS w lo hi l v → hi ≤ w.heap.size → (F < lo ∨ hi ≤ F) → (Kb < lo ∨ hi ≤ Kb) → F < w.heap.size →
    BF w F nm vp rs vb (n0 : Int) → w.heap[Kb]? = some (.cells #[numF F Kb] 56 (0, 0)) → vis FA k l n0 = some m →
    Calls Tryd.prog 78 #[v, .pointer (some ⟨F, 0, none⟩), .pointer (some ⟨Kb, 0, none⟩)] w fun e w' => e = .returned (.tuple #[]) ∧ NumO F lo hi k l n0 m v nm vp rs vb w w' := by
  induction k with
  | zero =>
    intro l v n0 m lo hi w _ h0 hO hhi hF1 hK1 hF hBF hKb hv
    obtain rfl : l = [] := by unfold vis at hv; split at hv; assumption; cases hv
    obtain ⟨A, c, rfl⟩ := hO.slice
    obtain rfl : n0 = m := by simpa [vis] using hv
    have HO := Lib.hid hO
    have HBF := Lib.hid hBF
    clear hO hBF hv
    go_enter Tryd.func78, Tryd.ntmps78
    go_wp2_with fail
    refine wp_loop_rounds 1 ?_
    rw [rounds_succ]
    go_wp2_with fail
    go_end0
    exact ⟨rfl, Fo.refl _ _ _ _, HO.out, HBF.out⟩
  | succ k ih =>
    intro l v n0 m lo hi w hk h0 hO hhi hF1 hK1 hF hBF hKb hv
    obtain ⟨A, c, rfl⟩ := hO.slice
    have hlen := vis_len FA (k + 1) l n0 m hv h0
    have hm2 := (vis_bounds FA (k + 1) l n0 m hv h0).2
    rcases Nat.eq_zero_or_pos l.length with hl0 | hl0
    · obtain rfl := List.eq_nil_of_length_eq_zero hl0
      obtain rfl : n0 = m := by simpa [vis_succ] using hv
      have HO := Lib.hid hO
      have HBF := Lib.hid hBF
      clear hO hBF hv
      go_enter Tryd.func78, Tryd.ntmps78
      go_wp2_with fail
      refine wp_loop_rounds 1 ?_
      rw [rounds_succ]
      go_wp2_with fail
      go_end0
      exact ⟨rfl, Fo.refl _ _ _ _, HO.out, HBF.out⟩
    obtain ⟨g, V, I, rfl, _, hX⟩ := hO.ox hl0
    have hl1000 := hO.len
    have hg1 := hX.g1
    have hg2 := hX.g2
    have IH := Lib.hid ih
    have HVS := Lib.hid (fun i n hi hf => vis_at (i := i) (n := n) hv h0 hi hf)
    have HVD := Lib.hid (show l.foldlM (visS FA k) n0 = some m by rw [← vis_succ]; exact hv)
    have HX := Lib.hid (show OX w lo hi (mid k l n0 0) g c V I by rw [mid_zero]; exact hX)
    have HBF := Lib.hid hBF
    have HK := Lib.hid hKb
    clear ih hO hX hBF hKb hv hlen
    go_enter Tryd.func78, Tryd.ntmps78
    go_wp2_with fail
    go_loopw [7] (fun c' wr => ∃ (i n : Nat), i ≤ l.length ∧ c' = .int .i64 i ∧ n ≤ 200 ∧ Hid ((l.take i).foldlM (visS FA k) n0 = some n) ∧ Hid (OX wr lo hi (mid k l n0 i) g c V I) ∧ Hid (Fo lo hi F w wr) ∧ Hid (BF wr F nm vp rs vb (n : Int))) (fun c' _ => l.length - (intOf c').toNat)
    case atStart => exact ⟨0, n0, by omega, rfl, h0, Lib.hid rfl, HX, Lib.hid (Fo.refl _ _ _ _), HBF⟩
    case round =>
      obtain ⟨i, n, hi', rfl, hn, HFO, HJ, HW, HBn⟩ := hrel
      clear HX HBF
      have hsz := HW.out.size
      by_cases hlt : i < l.length
      · have hmi : (mid k l n0 i)[i]? = some l[i] := by rw [mid_ge (by omega) (Nat.le_refl _)]; exact List.getElem?_eq_getElem hlt
        have hX := HJ.out
        have hml : i < (mid k l n0 i).length := by rw [mid_len (by omega)]; exact hlt
        have hiv := hX.iv.each i hml
        have hge := rowsS_get (V := V) hmi
        have cc := fun (j : Nat) u hj => hX.row.cell (j := j) (u := u) hge hj
        have c1 := cc 1 _ rfl
        have c6 := cc 6 _ rfl
        have c7 := cc 7 _ rfl
        have fg := hX.row.free (i * 8 + 1)
        have hob := hX.b i _ hmi
        have hoe := hX.e i _ hmi
        obtain ⟨a, b, hn200, hFn, hva, hvb, hfn, ha2, hb2⟩ := HVS.out i n hlt HFO.out
        have hPN := pre_vis FA k l i n0 n HFO.out
        have hnb : (numbL k l[i].body ((n + 1 : Nat) : Int)).2 = (a : Int) := numb_vis FA k l[i].body (n + 1) a hva
        have HMS := Lib.hid (mid_succ (k := k) (l := l) (n0 := (n0 : Int)) hlt)
        rw [hPN] at HMS
        have HMI := Lib.hid hmi
        have HST := Lib.hid (fun w3 body els hf hb he => hX.step (w3 := w3) (body := body) (els := els) (N := F) (n := (n : Int)) (by omega) (by omega) hmi (by unfold okI; omega) hf hb he)
        unfold numbSt at HMS
        rw [show ((n : Int) + 1) = ((n + 1 : Nat) : Int) by omega, hnb] at HMS
        have HOB := Lib.hid hob
        have HOE := Lib.hid hoe
        have HVA := Lib.hid hva
        have HVB := Lib.hid hvb
        have HFN := Lib.hid hfn
        clear cc hge hmi hX hob hoe hva hvb hfn hPN hnb hFn
        generalize l[i] = s at *
        generalize hV : V i = vv at *
        obtain ⟨v5, v6, v7⟩ := vv
        simp only at c6 c7 HOB HOE
        obtain ⟨A6, k6, rfl⟩ := HOB.out.slice
        obtain ⟨A7, k7, rfl⟩ := HOE.out.slice
        obtain ⟨_, _, _, _, e4⟩ := HBn.out.at_
        have fF := HBn.out.free 4
        have hgF : g ≠ F := by omega
        have cK := cell_of_one ((HW.out.block Kb (by have := lt_of_block HK.out; omega) (by omega) (by omega)).trans HK.out)
        have hn1 : (n : Int) + 1 ≤ 200 := by omega
        have hb2z : i * 8 + 1 ≠ i * 8 + 6 := by omega
        go_wp2_with fail
        have hgs := size_set wr ⟨g, i * 8 + 1, none⟩ (.int .i64 (n : Int))
        have hgs2 := size_set (wr.setCell ⟨g, i * 8 + 1, none⟩ (.int .i64 (n : Int))) ⟨F, 4, none⟩ (.int .i64 ((n : Int) + 1))
        have hF2 : Fo (I i).b (I i).z F (wr.setCell ⟨g, i * 8 + 1, none⟩ (.int .i64 (n : Int))) ((wr.setCell ⟨g, i * 8 + 1, none⟩ (.int .i64 (n : Int))).setCell ⟨F, 4, none⟩ (.int .i64 ((n : Int) + 1))) := (Fo.refl _ _ _ _).set (p := ⟨F, 4, none⟩) (.inr rfl) _
        have hB2 : BF ((wr.setCell ⟨g, i * 8 + 1, none⟩ (.int .i64 (n : Int))).setCell ⟨F, 4, none⟩ (.int .i64 ((n : Int) + 1))) F nm vp rs vb (((n + 1 : Nat) : Int)) := by
          have h1 : BF (wr.setCell ⟨g, i * 8 + 1, none⟩ (.int .i64 (n : Int))) F nm vp rs vb (n : Int) := HBn.out.keep (set_ne wr _ (by omega))
          have := BF.set4 h1 ((n : Int) + 1)
          rw [show ((n + 1 : Nat) : Int) = (n : Int) + 1 by omega]
          exact this
        have hK2 : ((wr.setCell ⟨g, i * 8 + 1, none⟩ (.int .i64 (n : Int))).setCell ⟨F, 4, none⟩ (.int .i64 ((n : Int) + 1))).heap[Kb]? = some (.cells #[numF F Kb] 56 (0, 0)) :=
          (set_ne _ _ (by omega)).trans ((set_ne _ _ (by omega)).trans ((HW.out.block Kb (by have := lt_of_block HK.out; omega) (by omega) (by omega)).trans HK.out))
        have hkp : ∀ b, b ≠ g → b ≠ F → ((wr.setCell ⟨g, i * 8 + 1, none⟩ (.int .i64 (n : Int))).setCell ⟨F, 4, none⟩ (.int .i64 ((n : Int) + 1))).heap[b]? = wr.heap[b]? := fun b h1 h2 => (set_ne _ _ h2).trans (set_ne _ _ h1)
        have hO2 : OS ((wr.setCell ⟨g, i * 8 + 1, none⟩ (.int .i64 (n : Int))).setCell ⟨F, 4, none⟩ (.int .i64 ((n : Int) + 1))) (I i).b (I i).e s.body (.slice A6 s.body.length k6) := HOB.out.keep fun b h1 h2 => hkp b (by omega) (by omega)
        have hE2 : OS ((wr.setCell ⟨g, i * 8 + 1, none⟩ (.int .i64 (n : Int))).setCell ⟨F, 4, none⟩ (.int .i64 ((n : Int) + 1))) (I i).e (I i).z s.els (.slice A7 s.els.length k7) := HOE.out.keep fun b h1 h2 => hkp b (by omega) (by omega)
        have c62 : ((wr.setCell ⟨g, i * 8 + 1, none⟩ (.int .i64 (n : Int))).setCell ⟨F, 4, none⟩ (.int .i64 ((n : Int) + 1))).cell? ⟨g, i * 8 + 6, none⟩ = some (.slice A6 s.body.length k6) :=
          (World.cell?_of_block (w := wr.setCell ⟨g, i * 8 + 1, none⟩ (.int .i64 (n : Int))) (set_ne _ _ hgF)).trans ((World.cell?_setCell_other _ _ _ _ (by intro e; injection e with _ e; omega)).trans c6)
        have c72 : ((wr.setCell ⟨g, i * 8 + 1, none⟩ (.int .i64 (n : Int))).setCell ⟨F, 4, none⟩ (.int .i64 ((n : Int) + 1))).cell? ⟨g, i * 8 + 7, none⟩ = some (.slice A7 s.els.length k7) :=
          (World.cell?_of_block (w := wr.setCell ⟨g, i * 8 + 1, none⟩ (.int .i64 (n : Int))) (set_ne _ _ hgF)).trans ((World.cell?_setCell_other _ _ _ _ (by intro e; injection e with _ e; omega)).trans c7)
        rw [hgs] at hgs2
        have HW1 := Lib.hid (HW.out.set (p := ⟨g, i * 8 + 1, none⟩) (.inl ⟨hg1, hg2⟩) (.int .i64 (n : Int)))
        have hST2 := HST.out
        have HST := Lib.hid hST2
        generalize (wr.setCell ⟨g, i * 8 + 1, none⟩ (.int .i64 (n : Int))) = w1 at *
        generalize w1.setCell ⟨F, 4, none⟩ (.int .i64 ((n : Int) + 1)) = w2 at *
        have hd : Below w2.heap.size w2 w2.drew := (Below.refl _ w2).drew
        have kd : ∀ b, b < w2.heap.size → w2.drew.heap[b]? = w2.heap[b]? := fun b h => hd.block b h
        have hKl : Kb < w2.heap.size := lt_of_block hK2
        have C5 := Lib.hid (IH.out s.body (.slice A6 s.body.length k6) (n + 1) a (I i).b (I i).e w2.drew (by omega) (by omega) (hO2.keep fun b h1 h2 => kd b (by omega)) (by have := hd.size; omega) (by omega) (by omega) (by have := hd.size; omega) (hB2.keep (kd F (by omega))) ((kd Kb hKl).trans hK2) HVA.out)
        have hS5 : Hid (SKp F Kb g (i * 8 + 6) (.slice A6 s.body.length k6) w2.drew) := Lib.hid ⟨cell_of_one ((kd Kb hKl).trans hK2), (World.cell?_of_block (w := w2) (kd g (by omega))).trans c62⟩
        have HS5 := Lib.hid (show ∀ w3, NumO F (I i).b (I i).e k s.body (n + 1) a (.slice A6 s.body.length k6) nm vp rs vb w2.drew w3 → Hid (SKp F Kb g (i * 8 + 6) (.slice A6 s.body.length k6) w3) from fun w3 h => Lib.hid
          ⟨(World.cell?_of_block (w := w2.drew) (h.fo.block Kb (by have := hd.size; omega) (by omega) (by omega))).trans hS5.out.1, (World.cell?_of_block (w := w2.drew) (h.fo.block g (by have := hd.size; omega) (by omega) hgF)).trans hS5.out.2⟩)
        have qK5 := fun (W1 : World) (h : Hid (SKp F Kb g (i * 8 + 6) (.slice A6 s.body.length k6) W1)) => h.out.1
        have qG5 := fun (W1 : World) (h : Hid (SKp F Kb g (i * 8 + 6) (.slice A6 s.body.length k6) W1)) => h.out.2
        have HD := Lib.hid hd
        have HF2 := Lib.hid hF2
        have HE2 := Lib.hid hE2
        have HC72 := Lib.hid c72
        have HK2 := Lib.hid hK2
        clear hd kd hO2 hB2 c62 c72 hkp hK2 hE2 hF2 hST2 c1 c6 c7 fg e4 fF cK
        refine wp_region_noPanic ?_
        refine wp_region_held_drew (S := fun (W1 : World) => Hid (SKp F Kb g (i * 8 + 6) (.slice A6 s.body.length k6) W1)) (by kernel_rfl) hS5 (fun hHeld => ?_)
        refine wpAnyH_take (i := 0) (oi := { dst := some 20, op := Go.Op.load 56 (Go.Operand.tmp 2), type := 56, pos := "shape.go:150", after := #[], guard := none }) (v := ?_) rfl (by as_aux_lemma => kernel_rfl) (by as_aux_lemma => kernel_rfl) (by as_aux_lemma => kernel_rfl) (fun _ _ _ h => h) (Or.inl ⟨by rfl, ?_⟩) hHeld ?_
        rotate_left
        · (intro w hSw; (try dsimp only at hSw); go_simp; try with_reducible rfl)
        try simp only [Act.put, List.setIfInBounds_toArray, List.set_cons_zero, List.set_cons_succ]
        refine wpAnyH_take (i := 1) (oi := { dst := some 21, op := Go.Op.move (Go.Operand.tmp 0), type := 41, pos := "shape.go:150", after := #[], guard := none }) (v := ?_) rfl (by as_aux_lemma => kernel_rfl) (by as_aux_lemma => kernel_rfl) (by as_aux_lemma => kernel_rfl) (fun _ _ _ h => h) (Or.inl ⟨by rfl, ?_⟩) hHeld ?_
        rotate_left
        · (intro w hSw; (try dsimp only at hSw); go_simp; try with_reducible rfl)
        try simp only [Act.put, List.setIfInBounds_toArray, List.set_cons_zero, List.set_cons_succ]
        refine wpAnyH_take (i := 2) (oi := { dst := some 22, op := Go.Op.move (Go.Operand.tmp 4), type := 3, pos := "shape.go:150", after := #[], guard := none }) (v := ?_) rfl (by as_aux_lemma => kernel_rfl) (by as_aux_lemma => kernel_rfl) (by as_aux_lemma => kernel_rfl) (fun _ _ _ h => h) (Or.inl ⟨by rfl, ?_⟩) hHeld ?_
        rotate_left
        · (intro w hSw; (try dsimp only at hSw); go_simp; try with_reducible rfl)
        try simp only [Act.put, List.setIfInBounds_toArray, List.set_cons_zero, List.set_cons_succ]
        refine wpAnyH_take (i := 3) (oi := { dst := some 23, op := Go.Op.indexAddr 41 (Go.Operand.tmp 21) (Go.Operand.tmp 22), type := 0, pos := "shape.go:150", after := #[{ on := 1, ground := Go.Ground.data }, { on := 2, ground := Go.Ground.data }], guard := none }) (v := ?_) rfl (by as_aux_lemma => kernel_rfl) (by as_aux_lemma => kernel_rfl) (by as_aux_lemma => kernel_rfl) (fun _ _ _ h => h) (Or.inl ⟨by rfl, ?_⟩) hHeld ?_
        rotate_left
        · (intro w hSw; (try dsimp only at hSw); go_simp; try with_reducible rfl)
        try simp only [Act.put, List.setIfInBounds_toArray, List.set_cons_zero, List.set_cons_succ]
        refine wpAnyH_take (i := 4) (oi := { dst := some 24, op := Go.Op.fieldAddr 46 (Go.Operand.tmp 23) 6, type := 0, pos := "shape.go:150", after := #[{ on := 3, ground := Go.Ground.data }], guard := none }) (v := ?_) rfl (by as_aux_lemma => kernel_rfl) (by as_aux_lemma => kernel_rfl) (by as_aux_lemma => kernel_rfl) (fun _ _ _ h => h) (Or.inl ⟨by rfl, ?_⟩) hHeld ?_
        rotate_left
        · (intro w hSw; (try dsimp only at hSw); go_simp; try with_reducible rfl)
        try simp only [Act.put, List.setIfInBounds_toArray, List.set_cons_zero, List.set_cons_succ]
        refine wpAnyH_take (i := 5) (oi := { dst := some 25, op := Go.Op.load 41 (Go.Operand.tmp 24), type := 41, pos := "shape.go:150", after := #[{ on := 4, ground := Go.Ground.data }], guard := none }) (v := ?_) rfl (by as_aux_lemma => kernel_rfl) (by as_aux_lemma => kernel_rfl) (by as_aux_lemma => kernel_rfl) (fun _ _ _ h => h) (Or.inl ⟨by rfl, ?_⟩) hHeld ?_
        rotate_left
        · (intro w hSw; (try dsimp only at hSw); go_simp; try with_reducible rfl)
        try simp only [Act.put, List.setIfInBounds_toArray, List.set_cons_zero, List.set_cons_succ]
        refine wpAnyH_ready (rs := [6]) (by as_aux_lemma => kernel_rfl) (List.cons_ne_nil _ _) ?_
        refine AllReadyH.cons (o := { dst := some 26, op := Go.Op.call { callee := Go.Callee.value (Go.Operand.tmp 20), args := #[Go.Operand.tmp 25], argTypes := #[41] }, type := 0, pos := "shape.go:150", after := #[{ on := 0, ground := Go.Ground.data }, { on := 5, ground := Go.Ground.data }], guard := none }) rfl (fun K hK => ?_) AllReadyH.nil
        go_simp
        refine (C5.out).mono ?_
        rintro e w3 ⟨rfl, hN3⟩
        go_wp2_with fail
        refine hK.out _ _ (HS5.out _ hN3) (fun hHeld2 => ?_)
        clear hK K hHeld
        have hHeld := hHeld2
        clear hHeld2
        try simp only [Act.put, List.setIfInBounds_toArray, List.set_cons_zero, List.set_cons_succ]
        refine wpAnyH_done (by kernel_rfl) ?_ _
        refine NoPanic.normal ?_
        go_wp2_with fail
        have hz3 := hN3.fo.size
        have hz2 := HD.out.size
        have hd3 : Below w3.heap.size w3 w3.drew := (Below.refl _ w3).drew
        have kd : ∀ b, b < w2.heap.size → w2.drew.heap[b]? = w2.heap[b]? := fun b h => HD.out.block b h
        have kd3 : ∀ b, b < w3.heap.size → w3.drew.heap[b]? = w3.heap[b]? := fun b h => hd3.block b h
        have hK3 := (kd3 Kb (by omega)).trans ((hN3.fo.block Kb (by omega) (by omega) (by omega)).trans ((kd Kb hKl).trans HK2.out))
        have hE3 : OS w3 (I i).e (I i).z s.els (.slice A7 s.els.length k7) := (HE2.out.keep fun b h1 h2 => kd b (by omega)).fo hN3.fo (by omega) (.inl (Nat.le_refl _)) (by omega)
        have hE4 : OS w3.drew (I i).e (I i).z s.els (.slice A7 s.els.length k7) := hE3.keep fun b h1 h2 => kd3 b (by omega)
        have c73 : w3.drew.cell? ⟨g, i * 8 + 7, none⟩ = some (.slice A7 s.els.length k7) := (World.cell?_of_block (w := w3) (kd3 g (by omega))).trans ((World.cell?_of_block (w := w2.drew) (hN3.fo.block g (by omega) (by omega) hgF)).trans ((World.cell?_of_block (w := w2) (kd g (by omega))).trans HC72.out))
        have C6 := Lib.hid (IH.out s.els (.slice A7 s.els.length k7) a b (I i).e (I i).z w3.drew (by omega) (by omega) hE4 (by have := hd3.size; omega) (by omega) (by omega) (by have := hd3.size; omega) (hN3.bf.keep (kd3 F (by omega))) hK3 HVB.out)
        have hS6 : Hid (SKp F Kb g (i * 8 + 7) (.slice A7 s.els.length k7) w3.drew) := Lib.hid ⟨cell_of_one hK3, c73⟩
        have HS6 := Lib.hid (show ∀ w4, NumO F (I i).e (I i).z k s.els a b (.slice A7 s.els.length k7) nm vp rs vb w3.drew w4 → Hid (SKp F Kb g (i * 8 + 7) (.slice A7 s.els.length k7) w4) from fun w4 h => Lib.hid
          ⟨(World.cell?_of_block (w := w3.drew) (h.fo.block Kb (by have := hd3.size; omega) (by omega) (by omega))).trans hS6.out.1, (World.cell?_of_block (w := w3.drew) (h.fo.block g (by have := hd3.size; omega) (by omega) hgF)).trans hS6.out.2⟩)
        have qK6 := fun (W1 : World) (h : Hid (SKp F Kb g (i * 8 + 7) (.slice A7 s.els.length k7) W1)) => h.out.1
        have qG6 := fun (W1 : World) (h : Hid (SKp F Kb g (i * 8 + 7) (.slice A7 s.els.length k7) W1)) => h.out.2
        have HN3 := Lib.hid hN3
        have HD3 := Lib.hid hd3
        clear hN3 hd3 kd kd3 hK3 hE3 hE4 c73 qK5 qG5 hS5 HS5 C5
        refine wp_region_noPanic ?_
        refine wp_region_held_drew (S := fun (W1 : World) => Hid (SKp F Kb g (i * 8 + 7) (.slice A7 s.els.length k7) W1)) (by kernel_rfl) hS6 (fun hHeld => ?_)
        refine wpAnyH_take (i := 0) (oi := { dst := some 27, op := Go.Op.load 56 (Go.Operand.tmp 2), type := 56, pos := "shape.go:151", after := #[], guard := none }) (v := ?_) rfl (by as_aux_lemma => kernel_rfl) (by as_aux_lemma => kernel_rfl) (by as_aux_lemma => kernel_rfl) (fun _ _ _ h => h) (Or.inl ⟨by rfl, ?_⟩) hHeld ?_
        rotate_left
        · (intro w hSw; (try dsimp only at hSw); go_simp; try with_reducible rfl)
        try simp only [Act.put, List.setIfInBounds_toArray, List.set_cons_zero, List.set_cons_succ]
        refine wpAnyH_take (i := 1) (oi := { dst := some 28, op := Go.Op.move (Go.Operand.tmp 0), type := 41, pos := "shape.go:151", after := #[], guard := none }) (v := ?_) rfl (by as_aux_lemma => kernel_rfl) (by as_aux_lemma => kernel_rfl) (by as_aux_lemma => kernel_rfl) (fun _ _ _ h => h) (Or.inl ⟨by rfl, ?_⟩) hHeld ?_
        rotate_left
        · (intro w hSw; (try dsimp only at hSw); go_simp; try with_reducible rfl)
        try simp only [Act.put, List.setIfInBounds_toArray, List.set_cons_zero, List.set_cons_succ]
        refine wpAnyH_take (i := 2) (oi := { dst := some 29, op := Go.Op.move (Go.Operand.tmp 4), type := 3, pos := "shape.go:151", after := #[], guard := none }) (v := ?_) rfl (by as_aux_lemma => kernel_rfl) (by as_aux_lemma => kernel_rfl) (by as_aux_lemma => kernel_rfl) (fun _ _ _ h => h) (Or.inl ⟨by rfl, ?_⟩) hHeld ?_
        rotate_left
        · (intro w hSw; (try dsimp only at hSw); go_simp; try with_reducible rfl)
        try simp only [Act.put, List.setIfInBounds_toArray, List.set_cons_zero, List.set_cons_succ]
        refine wpAnyH_take (i := 3) (oi := { dst := some 30, op := Go.Op.indexAddr 41 (Go.Operand.tmp 28) (Go.Operand.tmp 29), type := 0, pos := "shape.go:151", after := #[{ on := 1, ground := Go.Ground.data }, { on := 2, ground := Go.Ground.data }], guard := none }) (v := ?_) rfl (by as_aux_lemma => kernel_rfl) (by as_aux_lemma => kernel_rfl) (by as_aux_lemma => kernel_rfl) (fun _ _ _ h => h) (Or.inl ⟨by rfl, ?_⟩) hHeld ?_
        rotate_left
        · (intro w hSw; (try dsimp only at hSw); go_simp; try with_reducible rfl)
        try simp only [Act.put, List.setIfInBounds_toArray, List.set_cons_zero, List.set_cons_succ]
        refine wpAnyH_take (i := 4) (oi := { dst := some 31, op := Go.Op.fieldAddr 46 (Go.Operand.tmp 30) 7, type := 0, pos := "shape.go:151", after := #[{ on := 3, ground := Go.Ground.data }], guard := none }) (v := ?_) rfl (by as_aux_lemma => kernel_rfl) (by as_aux_lemma => kernel_rfl) (by as_aux_lemma => kernel_rfl) (fun _ _ _ h => h) (Or.inl ⟨by rfl, ?_⟩) hHeld ?_
        rotate_left
        · (intro w hSw; (try dsimp only at hSw); go_simp; try with_reducible rfl)
        try simp only [Act.put, List.setIfInBounds_toArray, List.set_cons_zero, List.set_cons_succ]
        refine wpAnyH_take (i := 5) (oi := { dst := some 32, op := Go.Op.load 41 (Go.Operand.tmp 31), type := 41, pos := "shape.go:151", after := #[{ on := 4, ground := Go.Ground.data }], guard := none }) (v := ?_) rfl (by as_aux_lemma => kernel_rfl) (by as_aux_lemma => kernel_rfl) (by as_aux_lemma => kernel_rfl) (fun _ _ _ h => h) (Or.inl ⟨by rfl, ?_⟩) hHeld ?_
        rotate_left
        · (intro w hSw; (try dsimp only at hSw); go_simp; try with_reducible rfl)
        try simp only [Act.put, List.setIfInBounds_toArray, List.set_cons_zero, List.set_cons_succ]
        refine wpAnyH_ready (rs := [6]) (by as_aux_lemma => kernel_rfl) (List.cons_ne_nil _ _) ?_
        refine AllReadyH.cons (o := { dst := some 33, op := Go.Op.call { callee := Go.Callee.value (Go.Operand.tmp 27), args := #[Go.Operand.tmp 32], argTypes := #[41] }, type := 0, pos := "shape.go:151", after := #[{ on := 0, ground := Go.Ground.data }, { on := 5, ground := Go.Ground.data }], guard := none }) rfl (fun K hK => ?_) AllReadyH.nil
        go_simp
        refine (C6.out).mono ?_
        rintro e w4 ⟨rfl, hN4⟩
        go_wp2_with fail
        refine hK.out _ _ (HS6.out _ hN4) (fun hHeld2 => ?_)
        clear hK K hHeld
        have hHeld := hHeld2
        clear hHeld2
        try simp only [Act.put, List.setIfInBounds_toArray, List.set_cons_zero, List.set_cons_succ]
        refine wpAnyH_done (by kernel_rfl) ?_ _
        refine NoPanic.normal ?_
        go_wp2_with fail
        have hFall : Fo (I i).b (I i).z F w1 w4 := HF2.out.trans ((Fo.of HD.out).trans ((HN3.out.fo.mono (Nat.le_refl _) (by omega)).trans ((Fo.of HD3.out).trans (hN4.fo.mono (by omega) (Nat.le_refl _)))))
        have hB4 : OS w4 (I i).b (I i).e (numbL k s.body ((n + 1 : Nat) : Int)).1 (.slice A6 s.body.length k6) :=
          (HN3.out.os.keep fun b h1 h2 => HD3.out.block b (by omega)).fo hN4.fo (by have := HD3.out.size; omega) (.inr (Nat.le_refl _)) (by omega)
        have hOX := HST.out w4 _ _ hFall hB4 hN4.os
        rw [← HMS.out] at hOX
        have HOX := Lib.hid hOX
        have HFo := Lib.hid (HW1.out.trans (hFall.mono (by omega) (by omega)))
        have HBF := Lib.hid hN4.bf
        clear hOX hB4 hFall hN4
        go_roundw
        case rel => exact ⟨i + 1, b, by omega, by go_num, hb2, HFN, HOX, HFo, HBF⟩
        case measure => simp [intOf]; omega
      · obtain rfl : i = l.length := by omega
        have hnm : n = m := by have := HFO.out; rw [List.take_length, HVD.out] at this; exact (Option.some.inj this).symm
        subst hnm
        have HOS := Lib.hid (show OS wr lo hi (numbL (k + 1) l n0).1 (.slice (some ⟨g, 0, none⟩) l.length c) by
          have h1 := HJ.out.os (by rw [mid_len (Nat.le_refl _)]; exact hl1000)
          rw [mid_len (Nat.le_refl _), mid_done] at h1
          exact h1)
        clear HJ
        go_wp2_with fail
        go_end0
        exact ⟨rfl, HW.out, HOS.out, HBn.out⟩
end Go.Proofs.YthiilnhiihfknaaDoor
