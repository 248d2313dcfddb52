/-
  cloneExprs: its contract.
-/
import Derived.Test.YtodicpnojcaanaaDoorSRows
namespace Go.Proofs.YtodicpnojcaanaaDoor
open Go Go.RowKit

theorem fitB_args {e : Ex} (h : fitB e = true) : e.args.length ≤ 2 := by
  unfold fitB at h
  cases hr : exRow e.kind with
  | none => rw [hr] at h; cases h
  | some r =>
    rw [hr] at h
    simp only [rowFit, Bool.and_eq_true, decide_eq_true_eq] at h
    have h2 : r.args ≤ 2 := by
      unfold exRow at hr
      repeat' (split at hr)
      all_goals first | (cases hr; simp) | cases hr
    omega
/-- New memory alone: blocks from n on, below m. -/
abbrev Rn (n m : Nat) : Nat → Prop := fun b => n ≤ b ∧ b < m
/-- A clone of these expressions. -/
def CloneE (w : World) (l : List Ex) (e : Ending) (w' : World) : Prop := ∃ v, e = .returned v ∧ Below w.heap.size w w' ∧ ER w' (Rn w.heap.size w'.heap.size) l v
/-- What has been cloned after i rounds. -/
def CEI (w : World) (g cap : Nat) (l : List Ex) (V0 : Nat → Value) (i : Nat) (wr : World) : Prop :=
  ∃ V : Nat → Value, RowAt wr g 24 5 cap (rowsE l V) ∧ (∀ (j : Nat) e, l[j]? = some e → j < i → ER wr (fun b => w.heap.size ≤ b ∧ b < wr.heap.size ∧ b ≠ g) e.args (V j)) ∧ (∀ j, i ≤ j → V j = V0 j) ∧ Below w.heap.size w wr
theorem rowsE_set {l : List Ex} {V : Nat → Value} {i : Nat} {v : Value} (hi : i < l.length) : rowsE l (fun j => if j = i then v else V j) = (rowsE l V).set i ((eC l[i] (V i)).set 4 v) := by
  rw [show (eC l[i] (V i)).set 4 v = eC l[i] v from rfl]
  have := mapIdx_set (f := fun j e => eC e (V j)) (f' := fun j e => eC e (if j = i then v else V j)) hi (fun j hj => by simp [hj])
  simpa [rowsE] using this
theorem CEI.step {w wr w2 : World} {g cap i : Nat} {l : List Ex} {V0 : Nat → Value} {v : Value} (h : CEI w g cap l V0 i wr) (hg : w.heap.size ≤ g) (hgr : g < wr.heap.size) (hi : i < l.length) (o : Obj) (hb : Below (wr.alloc o).heap.size (wr.alloc o) w2) (hE : ER w2 (Rn (wr.alloc o).heap.size w2.heap.size) l[i].args v) :
    CEI w g cap l V0 (i + 1) (w2.setCell ⟨g, i * 5 + 4, none⟩ v) := by
  obtain ⟨V, h1, h2, h3, h4⟩ := h
  have hs : wr.heap.size < (wr.alloc o).heap.size := by simp
  have hs2 := hb.size
  have hb2 : Below wr.heap.size wr w2 := after (bal wr o) hb
  have hz : (w2.setCell ⟨g, i * 5 + 4, none⟩ v).heap.size = w2.heap.size := by simp [World.setCell]
  have hcell : ∀ b k, b ≠ g → (w2.setCell ⟨g, i * 5 + 4, none⟩ v).cell? ⟨b, k, none⟩ = w2.cell? ⟨b, k, none⟩ := fun b k hb => World.cell?_of_block (w := w2) (Below.heap_setCell w2 _ v b hb)
  refine ⟨fun j => if j = i then v else V j, ?_, ?_, ?_, ?_⟩
  · rw [rowsE_set hi]
    exact (h1.bel hb2 hgr).set1 (rowsE_get (List.getElem?_eq_getElem hi)) (by omega) v
  · intro j e hj hji
    by_cases hjj : j = i
    · subst hjj
      rw [List.getElem?_eq_getElem hi] at hj
      cases hj
      simp only [if_true]
      refine hE.keep (fun b hb => ⟨by have := hb.1; omega, by rw [hz]; exact hb.2, by have := hb.1; omega⟩) fun b k hb => hcell b k (by have := hb.1; omega)
    · simp only [hjj, if_false]
      refine (h2 j e hj (by omega)).keep (fun b hb => ⟨hb.1, by rw [hz]; have := hb.2.1; omega, hb.2.2⟩) fun b k hb => (hcell b k hb.2.2).trans (hb2.cell (p := ⟨b, k, none⟩) hb.2.1)
  · intro j hj
    simp only [show ¬ j = i by omega, if_false]
    exact h3 j (by omega)
  · exact (after h4 hb2).setCell hg v
theorem CEI.done {w wr : World} {g cap : Nat} {l : List Ex} {V0 : Nat → Value} (h : CEI w g cap l V0 l.length wr) (hg : w.heap.size ≤ g) (hl : l.length ≤ 1000) (ho : ∀ (i : Nat) e, l[i]? = some e → OkE e) : Below w.heap.size w wr ∧ ER wr (Rn w.heap.size wr.heap.size) l (.slice (some ⟨g, 0, none⟩) l.length cap) := by
  obtain ⟨V, h1, h2, _, h4⟩ := h
  refine ⟨h4, ER.of_row h1 ⟨hg, h1.lt⟩ (by omega) ho fun i e hi => ?_⟩
  exact (h2 i e hi (List.getElem?_eq_some_iff.1 hi).1).keep (fun b hb => ⟨hb.1, hb.2.1⟩) fun _ _ _ => rfl

set_option maxHeartbeats 1000000 in
theorem cloneExprs_nil (A : Option Addr) (n c : Nat) (w : World) (h : EIn w w.heap.size [] (.slice A n c)) :
    Calls Tryd.prog 79 #[.slice A n c] w (CloneE w []) := by
  obtain ⟨V, _, C⟩ := cloneE_list [] (by simp) A n c w h
  have HC := Lib.hid C
  clear C h
  go_enter Tryd.func79, Tryd.ntmps79
  go_wp2_with fail
  refine HC.out.mono ?_
  rintro e w1 ⟨hb, h⟩
  have HB := Lib.hid hb
  clear hb
  rcases h with ⟨_, A', c', rfl⟩ | ⟨g, cap, rfl, _, _⟩
  · go_wp2_with fail
    refine wp_loop_rounds 1 ?_
    rw [rounds_succ]
    go_wp2_with fail
    go_ret
    exact ⟨_, rfl, HB.out, ER.nil _ _⟩
  · rw [rowsE_len]
    go_wp2_with fail
    refine wp_loop_rounds 1 ?_
    rw [rounds_succ]
    go_wp2_with fail
    go_ret
    exact ⟨_, rfl, HB.out, ER.nil _ _⟩

set_option maxRecDepth 100000 in
set_option maxHeartbeats 4000000 in
theorem cloneExprs_calls (k : Nat) : ∀ (l : List Ex) (v : Value) (w : World), l.length ≤ 1000 → (∀ e ∈ l, dep k e ≠ 0) → EIn w w.heap.size l v →
    Calls Tryd.prog 79 #[v] w (CloneE w l) := by
  induction k with
  | zero =>
    intro l v w _ hd hE
    obtain ⟨A, c, rfl⟩ := hE.slice
    rcases l with _ | ⟨e, l⟩
    · exact cloneExprs_nil A _ c w hE
    · exact absurd rfl (hd e (by simp))
  | succ k ih =>
    intro l v w hl hd hE
    obtain ⟨A, c, rfl⟩ := hE.slice
    rcases Nat.eq_zero_or_pos l.length with h0 | h0
    · obtain rfl := List.eq_nil_of_length_eq_zero h0
      exact cloneExprs_nil A _ c w hE
    · have IH := Lib.hid ih
      obtain ⟨V0, hV0, C⟩ := cloneE_list l hl A _ c w hE
      have HC := Lib.hid C
      have HV := Lib.hid hV0
      have HD := Lib.hid hd
      have hne : rowsE l V0 ≠ [] := fun e => by have := rowsE_len l V0; rw [e] at this; simp at this; omega
      have HNE := Lib.hid hne
      clear ih C hE hV0 hd hne
      go_enter Tryd.func79, Tryd.ntmps79
      go_wp2_with fail
      refine HC.out.mono ?_
      rintro e w1 ⟨hb, h⟩
      rcases h with ⟨h, _⟩ | ⟨g, cap, rfl, hg, hr⟩
      · exact absurd h HNE.out
      have HI := Lib.hid (show CEI w g cap l V0 0 w1 from ⟨V0, hr, fun j e _ h => by omega, fun _ _ => rfl, hb⟩)
      have hgw := hr.lt
      have HG0 := hg
      rw [rowsE_len]
      clear hb hr
      go_wp2_with fail
      go_loopw [9] (fun c wr => ∃ i : Nat, i ≤ l.length ∧ c = .int .i64 i ∧ g < wr.heap.size ∧ CEI w g cap l V0 i wr) (fun c _ => l.length - (intOf c).toNat)
      case atStart => exact ⟨0, by omega, rfl, hgw, HI.out⟩
      case round =>
        obtain ⟨i, hi, rfl, hgr, hinv⟩ := hrel
        have HJ := Lib.hid hinv
        clear hinv hgw
        by_cases hlt : i < l.length
        · have hrow : ∃ V : Nat → Value, RowAt wr g 24 5 cap (rowsE l V) ∧ V i = V0 i ∧ Below w.heap.size w wr := by
            obtain ⟨V, h1, _, h3, h4⟩ := HJ.out
            exact ⟨V, h1, h3 i (Nat.le_refl _), h4⟩
          obtain ⟨V, h1, h3, h4⟩ := hrow
          have hge := rowsE_get (V := V) (List.getElem?_eq_getElem hlt)
          rw [h3] at hge
          have cc := fun (j : Nat) u hj => h1.cell (j := j) (u := u) hge hj
          have c0 := cc 0 _ rfl
          have c1 := cc 1 _ rfl
          have c2 := cc 2 _ rfl
          have c3 := cc 3 _ rfl
          have c4 := cc 4 _ rfl
          rw [Nat.add_zero] at c0
          obtain ⟨hoe, hsub⟩ := HV.out i _ (List.getElem?_eq_getElem hlt)
          obtain ⟨A', c', hs⟩ := hsub.slice
          rw [hs] at c4 hsub
          have HS := Lib.hid (hsub.up h4)
          have HR1 := Lib.hid h1
          have HST := Lib.hid (fun o w2 v hb hE => HJ.out.step (w2 := w2) (v := v) HG0 hgr hlt o hb hE)
          have HDD := Lib.hid (dep_args (HD.out _ (List.getElem_mem hlt)))
          clear cc hge h1 h3 h4 hs hsub
          generalize l[i] = x at *
          go_wp2_with fail
          refine (IH.out x.args _ _ (by have := fitB_args HDD.out.1; omega) HDD.out.2 (HS.out.al _)).mono ?_
          rintro e w2 ⟨v', rfl, hb, hE2⟩
          obtain ⟨A2, c2', rfl⟩ := hE2.slice
          have HN := Lib.hid (HST.out _ _ _ hb hE2)
          have hz2 : wr.heap.size + 1 ≤ w2.heap.size := by have := hb.size; simpa using this
          have R2 := (HR1.out.bel (after (bal wr _) hb) hgr)
          have cW : ∃ u, w2.cell? ⟨g, i * 5 + 4, none⟩ = some u := ⟨_, R2.cell (rowsE_get (List.getElem?_eq_getElem hlt)) (j := 4) rfl⟩
          obtain ⟨u4, cW⟩ := cW
          have fW := R2.free (i * 5 + 4)
          clear hb hE2 R2 c0 c1 c2 c3 c4
          go_wp2_with fail
          go_roundw
          case rel => exact ⟨i + 1, by omega, by go_num, by simp [World.setCell]; omega, HN.out⟩
          case measure => simp [intOf]; omega
        · obtain rfl : i = l.length := by omega
          have HD2 := Lib.hid (HJ.out.done HG0 hl fun i e he => (HV.out i e he).1)
          go_wp2_with fail
          go_ret
          exact ⟨_, rfl, HD2.out.1, HD2.out.2⟩
end Go.Proofs.YtodicpnojcaanaaDoor
