/-
  Number: its contract.
-/
import Derived.Test.YthiilnhiihfknaaDoorSNumber
import Derived.Test.YthiilnhiihfknaaDoorSFn
namespace Go.Proofs.YthiilnhiihfknaaDoor
open Go Go.RowKit

def midF (l : List Fn) (i : Nat) : List Fn := (l.take i).map numbF ++ l.drop i
theorem midF_len {l : List Fn} {i : Nat} (h : i ≤ l.length) : (midF l i).length = l.length := by simp [midF]; omega
theorem midF_ge {l : List Fn} {i j : Nat} (h : i ≤ l.length) (hj : i ≤ j) : (midF l i)[j]? = l[j]? := by
  unfold midF
  rw [List.getElem?_append_right (by simp; omega), List.getElem?_drop]
  congr 1
  simp
  omega
theorem midF_succ {l : List Fn} {i : Nat} (h : i < l.length) : midF l (i + 1) = (midF l i).set i (numbF l[i]) := by
  unfold midF
  rw [List.take_succ_eq_append_getElem h, List.map_append, List.set_append_right _ _ (by simp; omega), List.drop_eq_getElem_cons h]
  have e : i - (List.map numbF (List.take i l)).length = 0 := by simp; omega
  rw [e]
  simp only [List.append_assoc, List.set_cons_zero, List.map_cons, List.map_nil, List.singleton_append]
theorem midF_zero (l : List Fn) : midF l 0 = l := by simp [midF]
theorem midF_done (l : List Fn) : midF l l.length = l.map numbF := by simp [midF]
structure NewF (w : World) (R : Nat → Prop) (f : Fn) (vp vb : Value) : Prop where
  ok : OkF f
  p : PR w R f.params vp
  b : SR w R f.body vb
theorem NewF.keep {w w' : World} {R R' : Nat → Prop} {f : Fn} {vp vb : Value} (h : NewF w R f vp vb) (hR : ∀ b, R b → R' b) (hk : ∀ b i, R b → w'.cell? ⟨b, i, none⟩ = w.cell? ⟨b, i, none⟩) : NewF w' R' f vp vb :=
  ⟨h.ok, h.p.keep hR hk, h.b.keep hR hk⟩
/-- Where a function's parts lie: params from a, body from b up to z. -/
structure Iw where
  a : Nat
  b : Nat
  z : Nat
/-- A function's parts, in memory of their own. -/
structure OwF (w : World) (f : Fn) (vp vb : Value) (J : Iw) : Prop where
  ok : OkF f
  ab : J.a ≤ J.b
  bz : J.b ≤ J.z
  p : PR w (fun b => J.a ≤ b ∧ b < J.b) f.params vp
  b : OS w J.b J.z f.body vb
theorem OwF.keep {w w' : World} {f : Fn} {vp vb : Value} {J : Iw} (h : OwF w f vp vb J) (hk : ∀ b, J.a ≤ b → b < J.z → w'.heap[b]? = w.heap[b]?) : OwF w' f vp vb J :=
  ⟨h.ok, h.ab, h.bz, h.p.keep (fun _ h => h) fun b q hb => World.cell?_of_block (w := w) (hk b hb.1 (by have := hb.2; have := h.bz; omega)), h.b.keep fun b h1 h2 => hk b (by have := h.ab; omega) h2⟩
theorem OwF.new {w : World} {f : Fn} {vp vb : Value} {J : Iw} {R : Nat → Prop} (h : OwF w f vp vb J) (hR : ∀ b, J.a ≤ b → b < J.z → R b) : NewF w R f vp vb :=
  ⟨h.ok, h.p.keep (fun b hb => hR b hb.1 (by have := hb.2; have := h.bz; omega)) fun _ _ _ => rfl, h.b.sr.keep (fun b hb => hR b (by have := hb.1; have := h.ab; omega) hb.2) fun _ _ _ => rfl⟩
def FSI (w : World) (lo g cap : Nat) (l : List Fn) (V0 : Nat → Value × Value) (i : Nat) (wr : World) : Prop :=
  ∃ (V : Nat → Value × Value) (I : Nat → Iw), RowAt wr g 43 5 cap (rowsF (midF l i) V) ∧
    (∀ (j : Nat) f, (midF l i)[j]? = some f → j < i → OwF wr f (V j).1 (V j).2 (I j) ∧ lo ≤ (I j).a ∧ (I j).z ≤ wr.heap.size ∧ ¬ ((I j).a ≤ g ∧ g < (I j).z)) ∧ (∀ j, i ≤ j → V j = V0 j) ∧ Below w.heap.size w wr ∧ ∀ m j, m < j → j < i → (I m).z ≤ (I j).a
theorem rowsF_set {l : List Fn} {V : Nat → Value × Value} {i : Nat} (f : Fn) (vp vb : Value) (hi : i < l.length) : rowsF (l.set i f) (fun j => if j = i then (vp, vb) else V j) = (rowsF l V).set i (fC f vp vb) := by
  apply List.ext_getElem?
  intro j
  by_cases hj : j = i
  · subst hj
    rw [List.getElem?_set_self (by rw [rowsF_len]; exact hi)]
    rw [rowsF_get (List.getElem?_set_self hi)]
    simp
  · rw [List.getElem?_set_ne (by omega)]
    simp only [rowsF, List.getElem?_mapIdx, List.getElem?_set_ne (Ne.symm hj), hj, if_false]
abbrev store5 (w : World) (g i : Nat) (f : Fn) (vp vb : Value) : World :=
  (((((w.setCell ⟨g, i * 5, none⟩ (.string (B f.name))).setCell ⟨g, i * 5 + 1, none⟩ vp).setCell ⟨g, i * 5 + 2, none⟩ (.int .i64 f.result)).setCell ⟨g, i * 5 + 3, none⟩ vb).setCell ⟨g, i * 5 + 4, none⟩ (.int .i64 f.count))
theorem store5_cell (w : World) (g i : Nat) (f : Fn) (vp vb : Value) {b : Nat} (hb : b ≠ g) (k : Nat) : (store5 w g i f vp vb).cell? ⟨b, k, none⟩ = w.cell? ⟨b, k, none⟩ := by
  simp only [store5]
  rw [cell_set_ne hb, cell_set_ne hb, cell_set_ne hb, cell_set_ne hb, cell_set_ne hb]
theorem FSI.step {w wr w2 : World} {lo g cap i : Nat} {l : List Fn} {V0 : Nat → Value × Value} {vp vb : Value} {J : Iw} (h : FSI w lo g cap l V0 i wr) (hlo : lo ≤ wr.heap.size) (hg : w.heap.size ≤ g) (hgr : g < wr.heap.size) (hi : i < l.length) (o : Obj) (hb : Below (wr.alloc o).heap.size (wr.alloc o) w2) (hN : OwF w2 (numbF l[i]) vp vb J) (hJ : (wr.alloc o).heap.size ≤ J.a) (hJz : J.z ≤ w2.heap.size) :
    FSI w lo g cap l V0 (i + 1) (store5 w2 g i (numbF l[i]) vp vb) := by
  obtain ⟨V, I, h1, h2, h3, h4, h5⟩ := h
  have hs : wr.heap.size < (wr.alloc o).heap.size := by simp
  have hs2 := hb.size
  have hb2 : Below wr.heap.size wr w2 := after (bal wr o) hb
  have hz : (store5 w2 g i (numbF l[i]) vp vb).heap.size = w2.heap.size := by simp only [store5, size_set]
  have hml : i < (midF l i).length := by rw [midF_len (by omega)]; exact hi
  have hne : ∀ b, b ≠ g → (store5 w2 g i (numbF l[i]) vp vb).heap[b]? = w2.heap[b]? := fun b hb => by
    simp only [store5]
    rw [Below.heap_setCell _ _ _ b hb, Below.heap_setCell _ _ _ b hb, Below.heap_setCell _ _ _ b hb, Below.heap_setCell _ _ _ b hb, Below.heap_setCell _ _ _ b hb]
  refine ⟨fun j => if j = i then (vp, vb) else V j, fun j => if j = i then J else I j, ?_, ?_, ?_, ?_, ?_⟩
  · rw [midF_succ hi, rowsF_set _ _ _ hml]
    exact (h1.bel hb2 hgr).set5 (rowsF_get (List.getElem?_eq_getElem hml)) _ _ _ _ _
  · intro j f hj hji
    rw [midF_succ hi] at hj
    by_cases hjj : j = i
    · subst hjj
      rw [List.getElem?_set_self hml] at hj
      cases hj
      simp only [if_true]
      exact ⟨hN.keep fun b h1 h2 => hne b (by omega), by omega, by rw [hz]; exact hJz, by omega⟩
    · rw [List.getElem?_set_ne (by omega)] at hj
      simp only [hjj, if_false]
      obtain ⟨e1, e2, e3, e4⟩ := h2 j f hj (by omega)
      exact ⟨e1.keep fun b h1 h2 => (hne b (by omega)).trans (hb2.block b (by omega)), e2, by rw [hz]; omega, e4⟩
  · intro j hj
    simp only [show ¬ j = i by omega, if_false]
    exact h3 j (by omega)
  · exact (((((after h4 hb2).setCell (p := ⟨g, _, none⟩) hg _).setCell (p := ⟨g, _, none⟩) hg _).setCell (p := ⟨g, _, none⟩) hg _).setCell (p := ⟨g, _, none⟩) hg _).setCell (p := ⟨g, _, none⟩) hg _
  · intro m j hmj hj
    by_cases hji : j = i
    · subst hji
      simp only [if_true, show ¬ m = j by omega, if_false]
      obtain ⟨f, hf⟩ : ∃ f, (midF l j)[m]? = some f := ⟨_, List.getElem?_eq_getElem (by omega)⟩
      have := (h2 m f hf hmj).2.2.1
      omega
    · simp only [hji, if_false, show ¬ m = i by omega, if_false]
      exact h5 m j hmj (by omega)
/-- What is behind the loop: the row of the functions, and their parts apart from it, and from each other. -/
structure Numbd (w : World) (lo g cap : Nat) (l : List Fn) (w' : World) : Prop where
  below : Below w.heap.size w w'
  row : ∃ (V : Nat → Value × Value) (I : Nat → Iw), RowAt w' g 43 5 cap (rowsF l V) ∧ (∀ (j : Nat) f, l[j]? = some f → OwF w' f (V j).1 (V j).2 (I j) ∧ lo ≤ (I j).a ∧ (I j).z ≤ w'.heap.size ∧ ¬ ((I j).a ≤ g ∧ g < (I j).z)) ∧ ∀ m j, m < j → j < l.length → (I m).z ≤ (I j).a
theorem FSI.done {w wr : World} {lo g cap : Nat} {l : List Fn} {V0 : Nat → Value × Value} (h : FSI w lo g cap l V0 l.length wr) : Numbd w lo g cap (l.map numbF) wr := by
  obtain ⟨V, I, h1, h2, _, h4, h5⟩ := h
  rw [midF_done] at h1 h2
  exact ⟨h4, V, I, h1, fun j f hj => h2 j f hj (by have := (List.getElem?_eq_some_iff.1 hj).1; simpa using this), fun m j hm hj => h5 m j hm (by simpa using hj)⟩
theorem Numbd.fr {w w' : World} {lo g cap : Nat} {l : List Fn} (h : Numbd w lo g cap l w') (hlo : w.heap.size ≤ lo) (hg : w.heap.size ≤ g) (hl : l.length ≤ 1000) : FR w' (Rn w.heap.size w'.heap.size) l (.slice (some ⟨g, 0, none⟩) l.length cap) := by
  obtain ⟨V, I, h1, h2, _⟩ := h.row
  have k := fun (i : Nat) (f : Fn) hi => (h2 i f hi).1.new (R := Rn w.heap.size w'.heap.size) fun b e1 e2 => ⟨by have := (h2 i f hi).2.1; omega, by have := (h2 i f hi).2.2.1; omega⟩
  exact FR.of_row h1 ⟨hg, h1.lt⟩ (by omega) (fun i f hi => (k i f hi).ok) (fun i f hi => (k i f hi).p) (fun i f hi => (k i f hi).b)
theorem Numbd.keep {w w' w2 : World} {lo g cap : Nat} {l : List Fn} (h : Numbd w lo g cap l w') (hb : Below w'.heap.size w' w2) : Numbd w lo g cap l w2 := by
  obtain ⟨V, I, h1, h2, h3⟩ := h.row
  refine ⟨h.below.trans (hb.mono h.below.size), V, I, h1.bel hb h1.lt, fun j f hj => ?_, h3⟩
  obtain ⟨e1, e2, e3, e4⟩ := h2 j f hj
  exact ⟨e1.keep fun b _ h2 => hb.block b (by omega), e2, Nat.le_trans e3 hb.size, e4⟩

theorem Numbd.set {w w' : World} {lo g cap : Nat} {l : List Fn} (h : Numbd w lo g cap l w') {p : Addr} (u : Value) (h1 : w.heap.size ≤ p.block) (h2 : p.block < lo) (h3 : p.block ≠ g) : Numbd w lo g cap l (w'.setCell p u) := by
  obtain ⟨V, I, r1, r2, r3⟩ := h.row
  refine ⟨h.below.setCell h1 u, V, I, r1.keep (Below.heap_setCell _ _ _ _ (Ne.symm h3)), fun j f hj => ?_, r3⟩
  obtain ⟨e1, e2, e3, e4⟩ := r2 j f hj
  exact ⟨e1.keep fun b q1 _ => Below.heap_setCell _ _ _ _ (by omega), e2, by rw [size_set]; exact e3, e4⟩

/-- What Number gives. -/
def NumP (l : List Fn) (w : World) (e : Ending) (w' : World) : Prop :=
  ∃ v, e = .returned (.agg #[v]) ∧ Below w.heap.size w w' ∧ ((numbP l = [] ∧ ∃ A c, v = .slice A 0 c) ∨ ∃ g cap, v = .slice (some ⟨g, 0, none⟩) (numbP l).length cap ∧ w.heap.size ≤ g ∧ ∃ lo, w.heap.size ≤ lo ∧ Numbd w lo g cap (numbP l) w')
theorem NumP.fr {l : List Fn} {w w' : World} {e : Ending} (h : NumP l w e w') (hl : (numbP l).length ≤ 1000) : ∃ v, e = .returned (.agg #[v]) ∧ Below w.heap.size w w' ∧ FR w' (Rn w.heap.size w'.heap.size) (numbP l) v := by
  obtain ⟨v, rfl, hb, h | ⟨g, cap, rfl, hg, lo, hlo, hn⟩⟩ := h
  · obtain ⟨h1, A, c, rfl⟩ := h
    rw [h1]
    exact ⟨_, rfl, hb, FR.nil _ _⟩
  · exact ⟨_, rfl, hb, hn.fr hlo hg hl⟩

set_option maxRecDepth 100000 in
set_option maxHeartbeats 8000000 in
theorem number_all (l : List Fn) (v : Value) (w : World) (hl : FIn w w.heap.size l v) (hG : Glob w) :
    Calls Tryd.prog 22 #[.agg #[v]] w (NumP l w) := by
  obtain ⟨A, c, rfl⟩ := hl.slice
  have hle := hl.le
  have HL := Lib.hid hl
  have HG := Lib.hid hG
  obtain ⟨b1, b2, b3⟩ := two w (.cells #[.slice A l.length c] 35) (.cells #[.slice none 0 0] 35)
  have H1 := Lib.hid b1
  have H2 := Lib.hid b2
  have H3 := Lib.hid b3
  clear hl hG b1 b2 b3
  cases hr : fnsB l with
  | false =>
    have HR := Lib.hid hr
    have HE := Lib.hid (show numbP l = [] by simp [numbP, hr])
    clear hr
    go_enter Tryd.func22, Tryd.ntmps22
    go_wp2_with fail
    refine (rightFuncs_calls l _ _ (HL.out.up (bal2 w _ _)) (HG.out.up (bal2 w _ _))).mono ?_
    rintro e w1 ⟨rfl, hb⟩
    rw [H3.out] at hb
    have B2 := (hb.block (w.heap.size + 1) (by omega)).trans H2.out
    have c1 := cell_of_one B2
    have f1 := free_of_one B2
    have B3 := one_setCell (u := .slice none 0 0) B2
    have c2 := cell_of_one B3
    have HB := Lib.hid (after (bal2 w _ _) (by rw [H3.out]; exact hb))
    clear hb B2 B3
    rw [HR.out]
    go_wp2_with fail
    refine bodyPost_ret (v := .agg #[.slice none 0 0]) (by simp [results, Tryd.results22, go_sem, c2]) rfl ⟨_, rfl, HB.out.setCell (p := ⟨w.heap.size + 1, 0, none⟩) (Nat.le_succ _) _, .inl ⟨HE.out, _, _, rfl⟩⟩
  | true =>
    have hl20 : l.length ≤ 20 := by simp only [fnsB, Bool.and_eq_true, decide_eq_true_eq] at hr; exact hr.1
    have hall : ∀ x ∈ l, fnB x = true := by simp only [fnsB, Bool.and_eq_true, List.all_eq_true] at hr; exact hr.2
    have HR := Lib.hid hr
    have HALL := Lib.hid hall
    have HE := Lib.hid (show numbP l = l.map numbF by simp [numbP, hr])
    clear hr hall
    go_enter Tryd.func22, Tryd.ntmps22
    go_wp2_with fail
    refine (rightFuncs_calls l _ _ (HL.out.up (bal2 w _ _)) (HG.out.up (bal2 w _ _))).mono ?_
    rintro e w1 ⟨rfl, hb⟩
    rw [H3.out] at hb
    have B1 := (hb.block w.heap.size (by omega)).trans H1.out
    have B2 := (hb.block (w.heap.size + 1) (by omega)).trans H2.out
    have c1 := cell_of_one B1
    have hz1 : w.heap.size + 2 ≤ w1.heap.size := by have := hb.size; rw [H3.out] at this; exact this
    have HB := Lib.hid (after (bal2 w _ _) (by rw [H3.out]; exact hb))
    have HB2 := Lib.hid B2
    clear hb B1 B2
    rw [HR.out]
    go_wp2_with fail
    obtain ⟨V0, hV0, C⟩ := cloneF_list l (by omega) A _ c w.heap.size w1 HB.out.size (FR.keep HL.out (fun _ h => h) fun b i hb => HB.out.cell (p := ⟨b, i, none⟩) hb)
    have HV := Lib.hid hV0
    refine C.mono ?_
    clear hV0 C
    rintro e w2 ⟨hb, h⟩
    have HW2 := Lib.hid (after HB.out hb)
    have HR2 := Lib.hid ((hb.block (w.heap.size + 1) (by omega)).trans HB2.out)
    have hz2 := hb.size
    rcases h with ⟨h, A', c', rfl⟩ | ⟨g, cap, rfl, hg, hrow⟩
    · have hl0 : l = [] := by
        rcases l with _ | ⟨f, l⟩
        · rfl
        · simp [rowsF] at h
      subst hl0
      have HE2 := Lib.hid (show numbP [] = [] from HE.out)
      have c2 := cell_of_one HR2.out
      have f2 := free_of_one HR2.out
      have c3 := cell_of_one (one_setCell (u := .slice A' 0 c') HR2.out)
      clear hb h
      go_wp2_with fail
      refine wp_loop_rounds 1 ?_
      rw [rounds_succ]
      go_wp2_with fail
      refine bodyPost_ret (v := .agg #[.slice A' 0 c']) (by simp [results, Tryd.results22, go_sem, c3]) rfl ⟨_, rfl, HW2.out.setCell (p := ⟨w.heap.size + 1, 0, none⟩) (Nat.le_succ _) _, .inl ⟨HE2.out, _, _, rfl⟩⟩
    · have HI := Lib.hid (show FSI w (w.heap.size + 2) g cap l V0 0 w2 from ⟨V0, fun _ => ⟨0, 0, 0⟩, by rw [midF_zero]; exact hrow, fun j e _ h => absurd h (Nat.not_lt_zero j), fun _ _ => rfl, HW2.out, fun m j _ h => absurd h (Nat.not_lt_zero j)⟩)
      have hgw := hrow.lt
      have hgs : w.heap.size + 1 < g := by omega
      rw [rowsF_len]
      clear hb hrow
      go_wp2_with fail
      go_loopw [16] (fun c wr => ∃ i : Nat, i ≤ l.length ∧ c = .int .i64 i ∧ g < wr.heap.size ∧ FSI w (w.heap.size + 2) g cap l V0 i wr ∧ wr.heap[w.heap.size + 1]? = some (.cells #[.slice none 0 0] 35 (0, 0))) (fun c _ => l.length - (intOf c).toNat)
      case atStart => exact ⟨0, by omega, rfl, hgw, HI.out, HR2.out⟩
      case round =>
        obtain ⟨i, hi, rfl, hgr, hinv, hres⟩ := hrel
        have HJ := Lib.hid hinv
        have HRES := Lib.hid hres
        clear hinv hgw hres
        by_cases hlt : i < l.length
        · have hrow : ∃ V, RowAt wr g 43 5 cap (rowsF (midF l i) V) ∧ V i = V0 i ∧ Below w.heap.size w wr := by
            obtain ⟨V, I, h1, _, h3, h4, _⟩ := HJ.out
            exact ⟨V, h1, h3 i (Nat.le_refl _), h4⟩
          obtain ⟨V, h1, h3, h4⟩ := hrow
          have hmi := (show (midF l i)[i]? = some l[i] by rw [midF_ge (by omega) (Nat.le_refl _)]; exact List.getElem?_eq_getElem hlt)
          have hge := rowsF_get (V := V) hmi
          rw [h3] at hge
          have cc := fun (j : Nat) u hj => h1.cell (j := j) (u := u) hge hj
          have c0 := cc 0 _ rfl
          have c1 := cc 1 _ rfl
          have c2 := cc 2 _ rfl
          have c3 := cc 3 _ rfl
          have c4 := cc 4 _ rfl
          rw [Nat.add_zero] at c0
          obtain ⟨hof, hp, hb⟩ := HV.out i _ (List.getElem?_eq_getElem hlt)
          obtain ⟨Ap, cp, hsp⟩ := hp.slice
          obtain ⟨Ab, cb, hsb⟩ := hb.slice
          rw [hsp] at c1 hp
          rw [hsb] at c3 hb
          have hsw : ∀ b i, b < w.heap.size → wr.cell? ⟨b, i, none⟩ = w1.cell? ⟨b, i, none⟩ := fun b i hb => (h4.cell (p := ⟨b, i, none⟩) hb).trans (HB.out.cell (p := ⟨b, i, none⟩) hb).symm
          have HP := Lib.hid (show PIn wr wr.heap.size l[i].params _ from hp.keep (fun b hb => Nat.lt_of_lt_of_le hb h4.size) hsw)
          have HBd := Lib.hid (show SIn wr wr.heap.size l[i].body _ from SR.keep hb (fun b hb => Nat.lt_of_lt_of_le hb h4.size) hsw)
          have HR1 := Lib.hid h1
          have HMI := Lib.hid hmi
          have HOF := Lib.hid hof
          have HFN := Lib.hid (HALL.out _ (List.getElem_mem hlt))
          have HST := Lib.hid (fun o w2 vp vb J hb hN hJ hJz => HJ.out.step (w2 := w2) (vp := vp) (vb := vb) (J := J) (by omega) (by omega : w.heap.size ≤ g) hgr hlt o hb hN hJ hJz)
          clear cc hge h1 h3 hsp hsb hp hb h4 hsw hmi hof
          generalize l[i] = x at *
          go_wp2_with fail
          refine (number_own x HFN.out _ _ _ (HP.out.al _) (HBd.out.al _)).mono ?_
          rintro e w3 ⟨vp, vb, pm, rfl, hb, hpm1, hpm2, hP3, hB3⟩
          obtain ⟨A3, c3', rfl⟩ := hP3.slice
          obtain ⟨A4, c4', rfl⟩ := hB3.slice
          have hok : OkF (numbF x) := ⟨HOF.out.name, HOF.out.result, by
            show okI (numbL 20 x.body 0).2
            have h := HFN.out
            simp only [fnB, Bool.and_eq_true] at h
            obtain ⟨m, hm⟩ := Option.isSome_iff_exists.1 h.2
            have h1 := numb_vis FA 20 x.body 0 m hm
            have h2 := vis_bounds FA 20 x.body 0 m hm (by omega)
            rw [show (numbL 20 x.body 0).2 = (m : Int) from h1]
            unfold okI
            omega⟩
          have HN := Lib.hid (HST.out _ _ _ _ ⟨(wr.alloc (fO x (.slice Ap x.params.length cp) (.slice Ab x.body.length cb))).heap.size, pm, w3.heap.size⟩ hb ⟨hok, hpm1, hpm2, hP3, hB3⟩ (Nat.le_refl _) (Nat.le_refl _))
          have hz3 : wr.heap.size + 1 ≤ w3.heap.size := by have := hb.size; simpa using this
          have R2 := HR1.out.bel (after (bal wr _) hb) hgr
          have hge2 := rowsF_get (V := V) HMI.out
          have cc := fun (j : Nat) u hj => R2.cell (j := j) (u := u) hge2 hj
          have d0 := cc 0 _ rfl
          have d1 := cc 1 _ rfl
          have d2 := cc 2 _ rfl
          have d3 := cc 3 _ rfl
          have d4 := cc 4 _ rfl
          rw [Nat.add_zero] at d0
          have fg := R2.free
          have hne : w.heap.size + 1 ≠ g := by omega
          have HRS := Lib.hid (show (store5 w3 g i (numbF x) (.slice A3 x.params.length c3') (.slice A4 (numbF x).body.length c4')).heap[w.heap.size + 1]? = some (.cells #[.slice none 0 0] 35 (0, 0)) by
            simp only [store5]
            rw [Below.heap_setCell _ _ _ _ hne, Below.heap_setCell _ _ _ _ hne, Below.heap_setCell _ _ _ _ hne, Below.heap_setCell _ _ _ _ hne, Below.heap_setCell _ _ _ _ hne]
            exact ((after (bal wr _) hb).block _ (by omega)).trans HRES.out)
          clear hb hP3 hB3 hpm1 hpm2 R2 hge2 cc c0 c1 c2 c3 c4 hok
          go_wp2_with fail
          go_roundw
          case rel => exact ⟨i + 1, by omega, by go_num, by simp only [size_set]; omega, HN.out, HRS.out⟩
          case measure => simp [intOf]; omega
        · obtain rfl : i = l.length := by omega
          have c2 := cell_of_one HRES.out
          have f2 := free_of_one HRES.out
          have c3 := cell_of_one (one_setCell (u := .slice (some ⟨g, 0, none⟩) l.length cap) HRES.out)
          have HD := Lib.hid HJ.out.done
          have HLEN := Lib.hid (show (numbP l).length = l.length by rw [HE.out]; simp)
          have HSET := Lib.hid (HD.out.set (p := ⟨w.heap.size + 1, 0, none⟩) (.slice (some ⟨g, 0, none⟩) l.length cap) (Nat.le_succ _) (Nat.lt_succ_self _) (by show w.heap.size + 1 ≠ g; omega))
          go_wp2_with fail
          refine bodyPost_ret (v := .agg #[.slice (some ⟨g, 0, none⟩) l.length cap]) (by simp [results, Tryd.results22, go_sem, c3]) rfl ⟨_, rfl, HSET.out.below, .inr ⟨g, cap, by rw [HLEN.out], by omega, w.heap.size + 2, by omega, by rw [HE.out]; exact HSET.out⟩⟩
end Go.Proofs.YthiilnhiihfknaaDoor
