/-
  The reference's Number: what has been done after i rounds.
  The reference's Number: contract.
-/
import Derived.Test.YthiilnhiihfknaaDoorSNumd
import Derived.Test.YthiilnhiihfknaaDoorSNumP
import Derived.Test.YthiilnhiihfknaaDoorSRefFn
namespace Go.Proofs.YthiilnhiihfknaaDoor
open Go Go.RowKit

theorem rowsF_snoc (l : List Fn) (f : Fn) (V : Nat → Value × Value) (vp vb : Value) : rowsF (l ++ [f]) (fun j => if j = l.length then (vp, vb) else V j) = rowsF l V ++ [fC f vp vb] := by
  unfold rowsF
  rw [List.mapIdx_append]
  congr 1
  · apply List.ext_getElem?
    intro j
    rw [List.getElem?_mapIdx, List.getElem?_mapIdx]
    by_cases hj : j < l.length
    · simp [show j ≠ l.length by omega]
    · rw [List.getElem?_eq_none (by omega)]; rfl
  · simp

abbrev KF (R : Nat → Prop) (Bs : Nat) (v : Value) (wr : World) (b : Nat) : Prop := (R b ∨ (Bs ≤ b ∧ b < wr.heap.size)) ∧ v.ownBlock ≠ some b
/-- The functions of l have been put into v. -/
def FunI (M Bs : Nat) (W0 : World) (R : Nat → Prop) (l : List Fn) (v : Value) (wr : World) : Prop :=
  ∃ V : Nat → Value × Value, wr.ownsRow Bs 43 5 v l.length (rowsF l V).flatten ∧
    (∀ (j : Nat) f, l[j]? = some f → NewF wr (KF R Bs v wr) f (V j).1 (V j).2 ∧ CapOk (V j).2) ∧ Below M W0 wr ∧ Bs ≤ wr.heap.size
theorem FunI.start {M Bs : Nat} {W0 : World} {R : Nat → Prop} (h : Bs ≤ W0.heap.size) : FunI M Bs W0 R [] (.slice none 0 0) W0 :=
  ⟨fun _ => (.bool false, .bool false), by simpa [rowsF] using World.ownsRow_nil W0 Bs 43 5, fun j s h => by simp at h, Below.refl _ _, h⟩
theorem FunI.own {M Bs : Nat} {W0 : World} {R : Nat → Prop} {l : List Fn} {v : Value} {wr : World} (h : FunI M Bs W0 R l v wr) (hR : ∀ b, R b → b < M) (N : Nat) (hN1 : M ≤ N) (hN2 : N < Bs) : ∃ xs, wr.ownsRow Bs 43 5 v l.length xs ∧
    (∀ w7 (f : Fn) (vp vb : Value) (o : Obj) g cap w8 u, Below wr.heap.size wr w7 → NewF w7 (KF R Bs v w7) f vp vb → CapOk vb →
      w8.ownsRow Bs 43 5 (.slice (some ⟨g, 0, none⟩) (l.length + 1) cap) (l.length + 1) (xs ++ fC f vp vb) → (w7.alloc o).grownBy w8 v.ownBlock → (v.ownBlock = some g ∨ g = (w7.alloc o).heap.size) →
      FunI M Bs W0 R (l ++ [f]) (.slice (some ⟨g, 0, none⟩) (l.length + 1) cap) (w8.setCell ⟨N, 0, none⟩ u)) := by
  obtain ⟨V, h1, h2, h3, h4⟩ := h
  refine ⟨_, h1, fun w7 f vp vb o g cap w8 u hb7 hN hcap h8 hg hat => ?_⟩
  have hsz7 := hb7.size
  have hsz8 : w7.heap.size + 1 ≤ w8.heap.size := by have := hg.size; simpa using this
  have hown := h1.lt
  have hgB : Bs ≤ g := by rcases hat with h | h; exact (hown g h).1; rw [h]; simp; omega
  have kk : ∀ W, wr.heap.size ≤ W.heap.size → W.heap.size ≤ w7.heap.size → ∀ b, KF R Bs v W b → KF R Bs (.slice (some ⟨g, 0, none⟩) (l.length + 1) cap) (w8.setCell ⟨N, 0, none⟩ u) b := by
    rintro W hW1 hW2 b ⟨hb1, hb2⟩
    have hbl : b < w7.heap.size := by
      rcases hb1 with hb1 | hb1
      · have := hR b hb1; omega
      · omega
    refine ⟨?_, ?_⟩
    · rcases hb1 with hb1 | hb1
      · exact .inl hb1
      · exact .inr ⟨hb1.1, by rw [size_set]; omega⟩
    · intro he
      simp [Value.ownBlock] at he
      rcases hat with hat | hat
      · exact hb2 (by rw [hat, he])
      · simp at hat; omega
  have hbN : ∀ W b, KF R Bs v W b → b ≠ N := by
    rintro W b ⟨hb1 | hb1, _⟩
    · have := hR b hb1; omega
    · omega
  have cc : ∀ b q, b < w7.heap.size → v.ownBlock ≠ some b → b ≠ N → (w8.setCell ⟨N, 0, none⟩ u).cell? ⟨b, q, none⟩ = w7.cell? ⟨b, q, none⟩ := fun b q hb hne hbN =>
    (cell_set_ne hbN).trans ((hg.cell_far ⟨b, q, none⟩ (by simp; omega) (fun e => hne e.symm)).trans ((bal w7 o).cell (p := ⟨b, q, none⟩) hb))
  have kl : ∀ W, W.heap.size ≤ w7.heap.size → ∀ b, KF R Bs v W b → b < w7.heap.size := by
    rintro W hW b ⟨hb1 | hb1, _⟩
    · have := hR b hb1; omega
    · omega
  refine ⟨fun j => if j = l.length then (vp, vb) else V j, ?_, ?_, ?_, ?_⟩
  · rw [rowsF_snoc, List.length_append]
    have h9 : (w8.setCell ⟨N, 0, none⟩ u).ownsRow Bs 43 5 (.slice (some ⟨g, 0, none⟩) (l.length + 1) cap) (l.length + 1) ((rowsF l V).flatten ++ fC f vp vb) := by
      refine ⟨h8.1, ?_⟩
      rcases h8.2 with hx | ⟨g', cap', cur, hv, q1, q2, q3⟩
      · exact .inl hx
      · cases hv
        exact .inr ⟨g, cap, cur, rfl, q1, (Below.heap_setCell w8 ⟨N, 0, none⟩ u g (by show g ≠ N; omega)).trans q2, q3⟩
    simpa using h9
  · intro j f' hj
    by_cases hji : j < l.length
    · have hj' : l[j]? = some f' := by
        rw [List.getElem?_append_left (by omega)] at hj
        exact hj
      simp only [show j ≠ l.length by omega, if_false]
      refine ⟨(h2 j f' hj').1.keep (kk wr (Nat.le_refl _) hsz7) fun b q hb => ?_, (h2 j f' hj').2⟩
      have hb' : b < wr.heap.size := by
        rcases hb.1 with h | h
        · have := hR b h; omega
        · exact h.2
      exact (cc b q (by omega) hb.2 (hbN wr b hb)).trans (hb7.cell (p := ⟨b, q, none⟩) hb')
    · have hji' : j = l.length := by
        have := (List.getElem?_eq_some_iff.1 hj).1
        simp at this
        omega
      subst hji'
      rw [List.getElem?_append_right (by omega), Nat.sub_self] at hj
      simp at hj
      subst hj
      simp only [if_true]
      exact ⟨hN.keep (kk w7 hsz7 (Nat.le_refl _)) fun b q hb => cc b q (kl w7 (Nat.le_refl _) b hb) hb.2 (hbN w7 b hb), hcap⟩
  · exact ((((h3.trans (hb7.mono (by omega))).alloc (by omega) o).grown hg (by simp; omega) fun j hj => by have := (hown j hj).1; omega)).setCell hN1 u
  · rw [size_set]; omega
/-- What the reference's Number gives: nothing, or a new row. -/
def RefNumP (l : List Fn) (R : Nat → Prop) (w : World) (e : Ending) (w' : World) : Prop :=
  ∃ v, e = .returned (.agg #[v]) ∧ Below w.heap.size w w' ∧ ((numbP l = [] ∧ ∃ A c, v = .slice A 0 c) ∨
    ∃ (g cap lo : Nat) (V : Nat → Value × Value), v = .slice (some ⟨g, 0, none⟩) (numbP l).length cap ∧ w.heap.size ≤ lo ∧ lo ≤ g ∧ RowAt w' g 43 5 cap (rowsF (numbP l) V) ∧
      ∀ i f, (numbP l)[i]? = some f → NewF w' (fun b => (R b ∨ (lo ≤ b ∧ b < w'.heap.size)) ∧ b ≠ g) f (V i).1 (V i).2 ∧ CapOk (V i).2)
theorem FunI.done {M Bs : Nat} {W0 : World} {R : Nat → Prop} {l : List Fn} {v : Value} {wr : World} (h : FunI M Bs W0 R l v wr) :
    (l = [] ∧ ∃ A c, v = .slice A 0 c) ∨ ∃ (g cap : Nat) (V : Nat → Value × Value), v = .slice (some ⟨g, 0, none⟩) l.length cap ∧ Bs ≤ g ∧ RowAt wr g 43 5 cap (rowsF l V) ∧
      ∀ i f, l[i]? = some f → NewF wr (fun b => (R b ∨ (Bs ≤ b ∧ b < wr.heap.size)) ∧ b ≠ g) f (V i).1 (V i).2 ∧ CapOk (V i).2 := by
  obtain ⟨V, h1, h2, h3, h4⟩ := h
  rcases Nat.eq_zero_or_pos l.length with h0 | h0
  · have := List.eq_nil_of_length_eq_zero h0
    subst this
    rcases h1.2 with ⟨rfl, _⟩ | ⟨g, cap, cur, rfl, _⟩
    · exact .inl ⟨rfl, _, _, rfl⟩
    · exact .inl ⟨rfl, _, _, rfl⟩
  · have h1' : wr.ownsRow Bs 43 5 v (rowsF l V).length (rowsF l V).flatten := by rw [rowsF_len]; exact h1
    obtain ⟨g, cap, rfl, hg, hr⟩ := RowAt.of_own h1' (rowsF_sz _ _) (by rw [rowsF_len]; exact h0)
    rw [rowsF_len] at h2 ⊢
    exact .inr ⟨g, cap, V, rfl, hg, hr, fun i f hi => ⟨(h2 i f hi).1.keep (fun b hb => ⟨hb.1, fun e => hb.2 (by rw [e]; rfl)⟩) fun _ _ _ => rfl, (h2 i f hi).2⟩⟩
end Go.Proofs.YthiilnhiihfknaaDoor

namespace Go.Proofs.YthiilnhiihfknaaDoor
open Go Go.RowKit

theorem three (w : World) (o1 o2 o3 : Obj) : (((w.alloc o1).alloc o2).alloc o3).heap[w.heap.size]? = some o1 ∧ (((w.alloc o1).alloc o2).alloc o3).heap[w.heap.size + 1]? = some o2 ∧ (((w.alloc o1).alloc o2).alloc o3).heap[w.heap.size + 2]? = some o3 ∧ (((w.alloc o1).alloc o2).alloc o3).heap.size = w.heap.size + 3 := ⟨blk1 _ _ _ _, blk2 _ _ _ _, blk3 _ _ _ _, by rw [sz1, sz1, sz1]⟩
theorem PR.rd {w : World} {R : Nat → Prop} {l : List Pa} {A : Option Addr} {n c : Nat} (h : PR w R l (.slice A n c)) (h0 : 0 < (rowsP l).length) : ∃ b o, A = some ⟨b, o, none⟩ ∧ R b ∧ ∀ j u, (rowsP l).flatten[j]? = some u → w.cell? ⟨b, o + j, none⟩ = some u := by
  have e : l.length = (rowsP l).length := by simp [rowsP]
  rw [← e] at h0
  obtain ⟨A', c', h1, _, h3⟩ := h.ex
  cases h1
  obtain ⟨b, o, hA, hb, _⟩ := h3 0 l[0] (List.getElem?_eq_getElem h0)
  refine ⟨b, o, hA, hb, rows_read (by omega) (rowsP_sz l) fun i r j u hi hj => ?_⟩
  simp only [rowsP, List.getElem?_map, Option.map_eq_some_iff] at hi
  obtain ⟨p, hp, rfl⟩ := hi
  obtain ⟨b', o', hA', _, _, c0, c1⟩ := h3 i p hp
  rw [hA] at hA'
  cases hA'
  match j, hj with
  | 0, hj => cases hj; exact c0
  | 1, hj => cases hj; exact c1
  | j + 2, hj => simp [pC] at hj
theorem rowsP_one (l : List Pa) : ∀ u ∈ (rowsP l).flatten, u.oneCell' = true := flat_one fun r hr u hu => by
  obtain ⟨p, _, rfl⟩ := List.mem_map.1 hr
  simp only [pC, List.mem_cons, List.not_mem_nil, or_false] at hu
  rcases hu with rfl | rfl <;> rfl
theorem PR.okp {w : World} {R : Nat → Prop} {l : List Pa} {v : Value} (h : PR w R l v) : ∀ (i : Nat) p, l[i]? = some p → OkP p := by
  obtain ⟨A', c', h1, _, h3⟩ := h.ex
  intro i p hi
  obtain ⟨_, _, _, _, h, _⟩ := h3 i p hi
  exact h
theorem take_map_snoc {α β : Type} (f : α → β) {l : List α} {i : Nat} (h : i < l.length) : (l.take (i + 1)).map f = (l.take i).map f ++ [f l[i]] := by
  rw [List.take_succ_eq_append_getElem h, List.map_append]; rfl
theorem numbF_ok {f : Fn} (ho : OkF f) (hf : fnB f = true) : ∃ m, vis FA 20 f.body 0 = some m ∧ m ≤ 200 ∧ (numbL 20 f.body 0).2 = m ∧ OkF (numbF f) := by
  simp only [fnB, Bool.and_eq_true] at hf
  obtain ⟨m, hm⟩ := Option.isSome_iff_exists.1 hf.2
  have h1 := numb_vis FA 20 f.body 0 m hm
  have h2 := vis_bounds FA 20 f.body 0 m hm (by omega)
  refine ⟨m, hm, h2.2, h1, ⟨ho.name, ho.result, ?_⟩⟩
  show okI (numbL 20 f.body 0).2
  rw [show (numbL 20 f.body 0).2 = (m : Int) from h1]
  unfold okI
  omega

set_option maxRecDepth 100000 in
set_option maxHeartbeats 8000000 in
theorem refNumber_all (l : List Fn) (v : Value) (R : Nat → Prop) (w : World) (hl : FR w R l v) (hR : ∀ b, R b → b < w.heap.size) :
    Calls Tryd.prog 23 #[.agg #[v]] w (RefNumP l R w) := by
  obtain ⟨A, c, rfl⟩ := hl.slice
  have hle := hl.le
  have HL := Lib.hid hl
  have HR := Lib.hid hR
  clear hl hR
  by_cases h20 : l.length ≤ 20
  · have h20' : ¬ (20 : Int) < (l.length : Int) := by omega
    have h20'' : decide (20 < l.length) = false := by simpa using h20
    obtain ⟨b1, b2, b3, b4⟩ := three w (.cells #[.slice A l.length c] 35) (.cells #[.slice none 0 0] 35) (.cells #[.slice none 0 0] 35)
    have HI := Lib.hid (show FunI (w.heap.size + 2) (w.heap.size + 3) (((w.alloc (.cells #[.slice A l.length c] 35)).alloc (.cells #[.slice none 0 0] 35)).alloc (.cells #[.slice none 0 0] 35)) R [] (.slice none 0 0) (((w.alloc (.cells #[.slice A l.length c] 35)).alloc (.cells #[.slice none 0 0] 35)).alloc (.cells #[.slice none 0 0] 35)) from FunI.start (by rw [b4]; exact Nat.le_refl _))
    have HB0 := Lib.hid (bal3 w (.cells #[.slice A l.length c] 35) (.cells #[.slice none 0 0] 35) (.cells #[.slice none 0 0] 35))
    have H1 := Lib.hid b1
    have H2 := Lib.hid b2
    have H3 := Lib.hid b3
    have H4 := Lib.hid b4
    clear b1 b2 b3 b4
    go_enter Tryd.func23, Tryd.ntmps23
    go_wp2_with fail
    generalize hW0 : (((w.alloc (.cells #[.slice A l.length c] 35)).alloc (.cells #[.slice none 0 0] 35)).alloc (.cells #[.slice none 0 0] 35)) = W0 at *
    clear hW0
    obtain ⟨i0, hi0, hz0, hz1, hz2⟩ := info_parts infoP
    obtain ⟨i1, hi1, hy0, hy1, hy2⟩ := info_parts infoF
    have HI0 := Lib.hid hi0
    have HZ0 := Lib.hid hz0
    have HZ1 := Lib.hid hz1
    have HZ2 := Lib.hid hz2
    have HI1 := Lib.hid hi1
    have HY0 := Lib.hid hy0
    have HY1 := Lib.hid hy1
    have HY2 := Lib.hid hy2
    clear hi0 hz0 hz1 hz2 hi1 hy0 hy1 hy2
    go_loopw [4] (fun k wr => ∃ (i : Nat) (v : Value), i ≤ l.length ∧ k = .int .i64 i ∧ Hid (∀ x ∈ l.take i, fnB x = true) ∧ Hid (wr.heap[w.heap.size]? = some (.cells #[.slice A l.length c] 35 (0, 0))) ∧ Hid (wr.heap[w.heap.size + 1]? = some (.cells #[.slice none 0 0] 35 (0, 0))) ∧ Hid (wr.heap[w.heap.size + 2]? = some (.cells #[v] 35 (0, 0))) ∧ Hid (FunI (w.heap.size + 2) (w.heap.size + 3) W0 R ((l.take i).map numbF) v wr)) (fun k _ => l.length - (intOf k).toNat)
    case atStart => exact ⟨0, _, by omega, rfl, Lib.hid (by simp), H1, H2, H3, HI⟩
    case round =>
      obtain ⟨i, v, hi, rfl, HAL, H1, H2, H3, HJ⟩ := hrel
      have HBW := Lib.hid (show Below w.heap.size w wr from HB0.out.trans (HJ.out.choose_spec.2.2.1.mono (by omega)))
      have hz : w.heap.size + 3 ≤ wr.heap.size := HJ.out.choose_spec.2.2.2
      have p0 := cell_of_one H1.out
      have p1 := cell_of_one H2.out
      have f1 := free_of_one H2.out
      have p2 := cell_of_one H3.out
      by_cases hlt : i < l.length
      · obtain ⟨bk, o, vp, vb, hA, hbR, hok, hc, hP, hB⟩ := HL.out.at_ i hlt
        have hbl := HR.out bk hbR
        have hc3 := hc.c3
        obtain ⟨c0, c1, c2, c3, c4⟩ := hc.keep (fun q => HBW.out.cell (p := ⟨bk, q, none⟩) hbl)
        obtain ⟨Ap, cp, rfl⟩ := hP.slice
        obtain ⟨Ab, cb, rfl⟩ := hB.slice
        have kR : ∀ b q, R b → wr.cell? ⟨b, q, none⟩ = w.cell? ⟨b, q, none⟩ := fun b q hb' => HBW.out.cell (p := ⟨b, q, none⟩) (HR.out b hb')
        have HP := Lib.hid (hP.keep (fun _ h => h) kR)
        have HB := Lib.hid (hB.keep (fun _ h => h) kR)
        have HLW := Lib.hid (fun b (h : R b) => HR.out b h)
        have hbr : bk < wr.heap.size := by omega
        have HTK := Lib.hid (take_map_snoc numbF hlt)
        have HTA := Lib.hid (List.take_succ_eq_append_getElem hlt)
        have HMEM := Lib.hid (List.getElem_mem hlt)
        subst hA
        clear hP hB hc kR
        generalize l[i] = x at *
        have X0 := BF.of (heap_alloc_new wr (fO x (.slice Ap x.params.length cp) (.slice Ab x.body.length cb)))
        have HX0 := Lib.hid X0
        have HW1 := Lib.hid (sz1 wr (fO x (.slice Ap x.params.length cp) (.slice Ab x.body.length cb)))
        have HOK := Lib.hid hok
        clear X0 hok
        cases hfx : fnB x with
        | false =>
          have HFX := Lib.hid hfx
          have HE := Lib.hid (show numbP l = [] by
            have : fnsB l = false := by
              simp only [fnsB]
              rw [show l.all fnB = false from by
                rw [← Bool.not_eq_true, List.all_eq_true]
                intro h
                have := h x HMEM.out
                rw [hfx] at this
                cases this]
              simp
            simp [numbP, this])
          clear hfx
          go_wp2_with fail
          refine (refFunc_calls x HOK.out _ _ _ (HP.out.keep (fun b h => by rw [HW1.out]; have := HLW.out b h; omega) fun b q h => (bal wr _).cell (p := ⟨b, q, none⟩) (by have := HLW.out b h; show b < wr.heap.size; omega)) (HB.out.keep (fun b h => by rw [HW1.out]; have := HLW.out b h; omega) fun b q h => (bal wr _).cell (p := ⟨b, q, none⟩) (by have := HLW.out b h; show b < wr.heap.size; omega))).mono ?_
          rintro e w1 ⟨rfl, hb⟩
          have B1 := after (bal wr _) hb
          have R2 := (B1.block (w.heap.size + 1) (by omega)).trans H2.out
          have q1 := cell_of_one R2
          have g1 := free_of_one R2
          have q2 := cell_of_one (one_setCell (u := .slice none 0 0) R2)
          have HBZ := Lib.hid (HBW.out.trans (B1.mono (by omega)))
          clear hb B1 R2 p1 f1 p2 p0 c0 c1 c2 c3 c4
          rw [HFX.out]
          go_wp2_with fail
          refine bodyPost_ret (v := .agg #[.slice none 0 0]) (by simp [results, Tryd.results23, go_sem, q2]) rfl ⟨_, rfl, HBZ.out.setCell (p := ⟨w.heap.size + 1, 0, none⟩) (Nat.le_succ _) _, .inl ⟨HE.out, _, _, rfl⟩⟩
        | true =>
          have HFX := Lib.hid hfx
          clear hfx
          go_wp2_with fail
          refine (refFunc_calls x HOK.out _ _ _ (HP.out.keep (fun b h => by rw [HW1.out]; have := HLW.out b h; omega) fun b q h => (bal wr _).cell (p := ⟨b, q, none⟩) (by have := HLW.out b h; show b < wr.heap.size; omega)) (HB.out.keep (fun b h => by rw [HW1.out]; have := HLW.out b h; omega) fun b q h => (bal wr _).cell (p := ⟨b, q, none⟩) (by have := HLW.out b h; show b < wr.heap.size; omega))).mono ?_
          rintro e w1 ⟨rfl, hb⟩
          have B1 := after (bal wr _) hb
          have X1 := HX0.out.bel hb (by rw [HW1.out]; omega)
          have hz1 : wr.heap.size + 1 ≤ w1.heap.size := by have := hb.size; rw [HW1.out] at this; exact this
          obtain ⟨d0, d1, d2, d3, d4⟩ := BF.at_ X1
          have hlt1 : wr.heap.size < w1.heap.size := by omega
          have hne1 : wr.heap.size ≠ w1.heap.size := by omega
          have d1' := ((bal w1 (.cells #[] 61)).cell (p := ⟨wr.heap.size, 1, none⟩) hlt1).trans d1
          have hpl : x.params.length ≤ 8 := by
            have := HFX.out
            simp only [fnB, pasB, Bool.and_eq_true, decide_eq_true_eq] at this
            exact this.1.1.2.1
          have P1 := HP.out.keep (w' := w1) (fun _ h => h) fun b q h => B1.cell (p := ⟨b, q, none⟩) (by have := HLW.out b h; show b < wr.heap.size; omega)
          have HRD := Lib.hid (show 0 < (rowsP x.params).length → ∃ b o, Ap = some ⟨b, o, none⟩ ∧ ∀ j u, (rowsP x.params).flatten[j]? = some u → (w1.alloc (.cells #[] 61)).cell? ⟨b, o + j, none⟩ = some u from fun h0 => by
            obtain ⟨b, o, h1, h2, h3⟩ := P1.rd h0
            exact ⟨b, o, h1, fun j u hj => ((bal w1 _).cell (p := ⟨b, o + j, none⟩) (by have := HLW.out b h2; show b < w1.heap.size; omega)).trans (h3 j u hj)⟩)
          have HPL := Lib.hid hpl
          have HOP := Lib.hid P1.okp
          have HX1 := Lib.hid X1
          have HB1 := Lib.hid B1
          clear hb B1 X1 P1 hpl c0 c1 c2 c3 c4 p0 p1 p2 f1
          rw [HFX.out]
          go_wp2_with (at_builtin; go_loud (refine wpList_append_clone rfl (.tmp 27) (.tmp 29) 40 rfl 61 i0 _ 2 24 Tryd.underlying40 HI0.out HZ0.out HZ1.out HZ2.out rfl (by decide) (by decide) _ _ rfl rfl (rowsP x.params) (rowsP_sz _) (rowsP_one _) (by have := HPL.out; simp [rowsP]; omega) Ap x.params.length cp (by simp [rowsP]) rfl HRD.out ?_))
          intro v5 w2 hcl
          obtain ⟨v5', he5, hb2, hP5⟩ := CloneR.params hcl (by have := HPL.out; omega) HOP.out
          cases he5
          obtain ⟨A5, c5', rfl⟩ := hP5.slice
          have X2 := HX1.out.bel hb2 hlt1
          have B2 := HB1.out.trans (hb2.mono (by omega))
          have hz2 := hb2.size
          have X3 := BF.set1 X2 (.slice A5 x.params.length c5')
          have B3 : Below wr.heap.size wr (w2.setCell ⟨wr.heap.size, 1, none⟩ (.slice A5 x.params.length c5')) := B2.setCell (Nat.le_refl _) _
          have q1 := (BF.at_ X2).2.1
          have g1 := X2.free 1
          have hP5' : PR w2 (fun b => wr.heap.size < b ∧ b < w2.heap.size) x.params (.slice A5 x.params.length c5') := hP5.keep (fun b hb => ⟨by have := hb.1; omega, hb.2⟩) fun _ _ _ => rfl
          obtain ⟨m, hvm, hm200, hnm, hokf⟩ := numbF_ok HOK.out HFX.out
          have e0 := cell_of_one ((B3.block w.heap.size (by omega)).trans H1.out)
          have e3 := (B3.cell (p := ⟨bk, o + i * 5 + 3, none⟩) hbr).trans ((HBW.out.cell (p := ⟨bk, o + i * 5 + 3, none⟩) hbl).trans hc3)
          have HB3 := Lib.hid B3
          have HX3 := Lib.hid X3
          have HP5 := Lib.hid hP5'
          have HVM := Lib.hid hvm
          have HNM := Lib.hid hnm
          have HOF := Lib.hid hokf
          clear hcl hb2 hP5 X2 B2 X3 B3 hP5' hvm hnm hokf d0 d1 d1' d2 d3 d4
          go_wp2_with fail
          refine (refNumbered_calls 20 R x.body _ _ 0 m _ rfl (by omega) (by omega) (fun b hb => by rw [size_set]; have := HLW.out b hb; omega) (HB.out.keep (fun _ h => h) fun b q hb => HB3.out.cell (p := ⟨b, q, none⟩) (by have := HLW.out b hb; show b < wr.heap.size; omega)) HVM.out).mono ?_
          rintro e w4 ⟨v6, rfl, hb4, hS6, hcap6⟩
          obtain ⟨A6, c6', rfl⟩ := hS6.slice
          have HCP := Lib.hid hcap6
          clear hcap6
          have hz4 : w2.heap.size ≤ w4.heap.size := by have := hb4.size; rw [size_set] at this; exact this
          have X4 := HX3.out.bel hb4 (by rw [size_set]; omega)
          have B4 := HB3.out.trans (hb4.mono (by rw [size_set]; omega))
          have k24 : ∀ b q, b < w2.heap.size → b ≠ wr.heap.size → w4.cell? ⟨b, q, none⟩ = w2.cell? ⟨b, q, none⟩ := fun b q hb hne => (hb4.cell (p := ⟨b, q, none⟩) (by rw [size_set]; exact hb)).trans (World.cell?_of_block (w := w2) (Below.heap_setCell w2 _ _ b hne))
          have X5 := BF.set3 X4 (.slice A6 (numbL 20 x.body 0).1.length c6')
          have X6 := BF.set4 X5 (m : Int)
          have B5 := B4.setCell (p := ⟨wr.heap.size, 3, none⟩) (Nat.le_refl _) (.slice A6 (numbL 20 x.body 0).1.length c6')
          have B6 := B5.setCell (p := ⟨wr.heap.size, 4, none⟩) (Nat.le_refl _) (.int .i64 (m : Int))
          have g3 := X4.free 3
          have q3 := (BF.at_ X4).2.2.2.1
          have g4 := X5.free 4
          have q4 := (BF.at_ X5).2.2.2.2
          obtain ⟨r0, r1, r2, r3, r4⟩ := BF.at_ X6
          have hz7 : (((w4.setCell ⟨wr.heap.size, 3, none⟩ (.slice A6 (numbL 20 x.body 0).1.length c6'))).setCell ⟨wr.heap.size, 4, none⟩ (.int .i64 (m : Int))).heap.size = w4.heap.size := by rw [size_set, size_set]
          have k67 : ∀ b q, b ≠ wr.heap.size → (((w4.setCell ⟨wr.heap.size, 3, none⟩ (.slice A6 (numbL 20 x.body 0).1.length c6'))).setCell ⟨wr.heap.size, 4, none⟩ (.int .i64 (m : Int))).cell? ⟨b, q, none⟩ = w4.cell? ⟨b, q, none⟩ := fun b q hne => (cell_set_ne hne).trans (cell_set_ne hne)
          obtain ⟨xs, hown, hstep⟩ := HJ.out.own (fun b hb => by have := HLW.out b hb; omega) (w.heap.size + 2) (by omega) (by omega)
          have hov := hown.lt
          have hnew : NewF (((w4.setCell ⟨wr.heap.size, 3, none⟩ (.slice A6 (numbL 20 x.body 0).1.length c6'))).setCell ⟨wr.heap.size, 4, none⟩ (.int .i64 (m : Int))) (KF R (w.heap.size + 3) v (((w4.setCell ⟨wr.heap.size, 3, none⟩ (.slice A6 (numbL 20 x.body 0).1.length c6'))).setCell ⟨wr.heap.size, 4, none⟩ (.int .i64 (m : Int)))) (numbF x) (.slice A5 x.params.length c5') (.slice A6 (numbL 20 x.body 0).1.length c6') := by
            have ho : ∀ b, R b ∨ (wr.heap.size < b ∧ b < w4.heap.size) → KF R (w.heap.size + 3) v (((w4.setCell ⟨wr.heap.size, 3, none⟩ (.slice A6 (numbL 20 x.body 0).1.length c6'))).setCell ⟨wr.heap.size, 4, none⟩ (.int .i64 (m : Int))) b := fun b hb => by
              refine ⟨?_, fun e => ?_⟩
              · rcases hb with hb | hb
                · exact .inl hb
                · exact .inr ⟨by omega, by rw [hz7]; exact hb.2⟩
              · have h1 := hov b e
                rcases hb with hb | hb
                · have := HLW.out b hb; omega
                · omega
            refine ⟨HOF.out, ?_, ?_⟩
            · exact HP5.out.keep (fun b hb => ho b (.inr ⟨hb.1, by omega⟩)) fun b q hb => (k67 b q (by omega)).trans (k24 b q hb.2 (by omega))
            · exact hS6.keep (fun b hb => ho b (by rcases hb with hb | hb; exact .inl hb; exact .inr ⟨by have := hb.1; rw [size_set] at this; omega, hb.2⟩)) fun b q hb => k67 b q (by rcases hb with hb | hb; have := HLW.out b hb; omega; have := hb.1; rw [size_set] at this; omega)
          have hO6 := (B6.block (w.heap.size + 2) (by omega)).trans H3.out
          have s2 := cell_of_one hO6
          have HO6 := Lib.hid hO6
          have HO5 := Lib.hid ((B6.block (w.heap.size + 1) (by omega)).trans H2.out)
          have HO4 := Lib.hid ((B6.block (w.heap.size) (by omega)).trans H1.out)
          have HOW := Lib.hid (owns_below hown B6)
          have HST := Lib.hid hstep
          have HNEW := Lib.hid hnew
          have HB6 := Lib.hid B6
          have HOV := Lib.hid hov
          have HZ7 := Lib.hid hz7
          have hzz : wr.heap.size ≤ w4.heap.size := by omega
          have hLl : ((l.take i).map numbF).length = i := by simp; omega
          rw [hLl] at HOW HST
          clear hb4 hS6 X4 B4 k24 X5 X6 B5 B6 hz7 k67 hown hstep hov hnew hO6 hLl q1 g1 e0 e3
          generalize (numbL 20 x.body 0).1.length = len6 at *
          go_wp2_with (at_builtin; go_loud (refine wpList_append_lies _ rfl (.tmp 45) (.tmp 47) 33 rfl (w.heap.size + 3) 43 i1 _ 5 80 Tryd.underlying33 HI1.out HY0.out HY1.out HY2.out rfl (by decide) v i xs rfl (HOW.out.alloc _) ⟨w4.heap.size, 0, none⟩ 1 1 (fC { x with count := (m : Int) } (.slice A5 x.params.length c5') (.slice A6 len6 c6')) rfl rfl (news_new _ _ _ _ HZ7.out) (by intro u hu; simp [fC] at hu; rcases hu with rfl | rfl | rfl | rfl | rfl <;> rfl) (by decide) (by unfold maxLen; omega) (by omega) (by simp; omega) _ rfl ?_))
          intro g cap w8 hown8 hgr8 hat hlt8
          have hfc : fC { x with count := (m : Int) } (.slice A5 x.params.length c5') (.slice A6 len6 c6') = fC (numbF x) (.slice A5 x.params.length c5') (.slice A6 len6 c6') := by
            simp only [fC, numbF, HNM.out]
          rw [hfc] at hown8
          have hst := HST.out _ _ _ _ _ g cap w8 (.slice (some ⟨g, 0, none⟩) (i + 1) cap) HB6.out HNEW.out HCP.out hown8 hgr8 (by rcases hat with h | h; exact .inl h; exact .inr (by rw [h]; simp))
          rw [← HTK.out] at hst
          have hbk : ∀ b, b < w4.heap.size → b < w.heap.size + 3 → w8.heap[b]? = (((w4.setCell ⟨wr.heap.size, 3, none⟩ (.slice A6 len6 c6'))).setCell ⟨wr.heap.size, 4, none⟩ (.int .i64 (m : Int))).heap[b]? := fun b hb hb2 =>
            (hgr8.block b (by simp; omega) (fun e => by have := (HOV.out b e.symm).1; omega)).trans ((bal _ _).block b (by rw [HZ7.out]; exact hb))
          have hO8 := (hbk (w.heap.size + 2) (by omega) (by omega)).trans HO6.out
          have t2 := cell_of_one hO8
          have tf := free_of_one hO8
          have HO9 := Lib.hid (one_setCell (u := .slice (some ⟨g, 0, none⟩) (i + 1) cap) hO8)
          have HR9 := Lib.hid ((Below.heap_setCell w8 ⟨w.heap.size + 2, 0, none⟩ (.slice (some ⟨g, 0, none⟩) (i + 1) cap) (w.heap.size + 1) (by show w.heap.size + 1 ≠ w.heap.size + 2; omega)).trans ((hbk (w.heap.size + 1) (by omega) (by omega)).trans HO5.out))
          have HP9 := Lib.hid ((Below.heap_setCell w8 ⟨w.heap.size + 2, 0, none⟩ (.slice (some ⟨g, 0, none⟩) (i + 1) cap) (w.heap.size) (by show w.heap.size ≠ w.heap.size + 2; omega)).trans ((hbk (w.heap.size) (by omega) (by omega)).trans HO4.out))
          have HNI := Lib.hid hst
          have HAL2 := Lib.hid (show ∀ y ∈ l.take (i + 1), fnB y = true by
            intro y hy
            rw [HTA.out, List.mem_append] at hy
            rcases hy with hy | hy
            · exact HAL.out y hy
            · simp at hy; subst hy; exact HFX.out)
          clear hown8 hgr8 hat hlt8 hfc hst hbk hO8
          go_wp2_with fail
          go_roundw
          case rel => exact ⟨i + 1, _, by omega, by go_num, HAL2, HP9, HR9, HO9, HNI⟩
          case measure => simp [intOf]; omega
      · obtain rfl : i = l.length := by omega
        have hall : fnsB l = true := by
          have h := HAL.out
          rw [List.take_length] at h
          simp only [fnsB, Bool.and_eq_true, decide_eq_true_eq, List.all_eq_true]
          exact ⟨h20, h⟩
        have hE : numbP l = l.map numbF := by simp [numbP, hall]
        have HE := Lib.hid hE
        have hdn := HJ.out.done
        rw [List.take_length] at hdn
        have HDN := Lib.hid hdn
        obtain ⟨A', n', c', rfl⟩ : ∃ A' n' c', v = .slice A' n' c' := by
          rcases hdn with ⟨_, A', c', h⟩ | ⟨g, cap, V, h, _⟩
          · exact ⟨_, _, _, h⟩
          · exact ⟨_, _, _, h⟩
        have hcs := cell_of_one (one_setCell (u := .slice A' n' c') H2.out)
        have HRES := Lib.hid hcs
        have HBW1 := Lib.hid (HBW.out.setCell (p := ⟨w.heap.size + 1, 0, none⟩) (Nat.le_succ _) (.slice A' n' c'))
        clear hall hE hdn hcs
        go_wp2_with fail
        have hres := HRES.out
        refine bodyPost_ret (v := .agg #[.slice A' n' c']) (by simp [results, Tryd.results23, go_sem, hres]) rfl ⟨_, rfl, HBW1.out, ?_⟩
        rw [HE.out]
        rcases HDN.out with ⟨h1, h2⟩ | ⟨g, cap, V, h1, h2, h3, h4⟩
        · exact .inl ⟨h1, h2⟩
        · refine .inr ⟨g, cap, w.heap.size + 3, V, h1, by omega, h2, h3.keep (Below.heap_setCell _ _ _ _ (by show g ≠ w.heap.size + 1; omega)), fun i f hi => ?_⟩
          exact ⟨(h4 i f hi).1.keep (fun b hb => ⟨by rw [size_set]; exact hb.1, hb.2⟩) fun b q hb => cell_set_ne (by
            rcases hb.1 with hb | hb
            · have := HR.out b hb; show b ≠ w.heap.size + 1; omega
            · show b ≠ w.heap.size + 1; omega), (h4 i f hi).2⟩
  · have h20' : (20 : Int) < (l.length : Int) := by omega
    have h20'' : decide (20 < l.length) = true := by simpa using h20
    have HE := Lib.hid (show numbP l = [] by
      have : fnsB l = false := by simp [fnsB, h20]
      simp [numbP, this])
    obtain ⟨b1, b2, b3⟩ := two w (.cells #[.slice A l.length c] 35) (.cells #[.slice none 0 0] 35)
    have c1 := cell_of_one b2
    have f1 := free_of_one b2
    have HB := Lib.hid (bal2 w (.cells #[.slice A l.length c] 35) (.cells #[.slice none 0 0] 35))
    clear b1 b2 b3
    go_enter Tryd.func23, Tryd.ntmps23
    go_wp2_with fail
    refine bodyPost_ret (v := .agg #[.slice none 0 0]) (by simp [results, Tryd.results23, go_sem]) rfl ⟨_, rfl, HB.out, .inl ⟨HE.out, _, _, rfl⟩⟩
end Go.Proofs.YthiilnhiihfknaaDoor
