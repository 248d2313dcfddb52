/-
  cloneExprs: its contract.
  Numbers of statements: plain laws; boxes as rows; what number's closure has done after i rounds.
  number's closure: its contract.
-/
import Derived.Test.YtodicpnojcaanaaDoorSMm
import Derived.Laws.EntriesVeiled
namespace Go.Proofs.YtodicpnojcaanaaDoor
open Go Go.RowKit

theorem fitB_args {e : Ex} (h : fitB e = true) : e.args.length ≤ 2 := by
  unfold fitB at h
  cases hr : exRow e.kind with
  | none => rw [hr] at h; cases h
  | some r =>
    rw [hr] at h
    simp only [rowFit, Bool.and_eq_true, decide_eq_true_eq] at h
    have h2 : r.args ≤ 2 := by
      unfold exRow at hr
      repeat' (split at hr)
      all_goals first | (cases hr; simp) | cases hr
    omega
/-- New memory alone: blocks from n on, below m. -/
abbrev Rn (n m : Nat) : Nat → Prop := fun b => n ≤ b ∧ b < m
/-- A clone of these expressions. -/
def CloneE (w : World) (l : List Ex) (e : Ending) (w' : World) : Prop := ∃ v, e = .returned v ∧ Below w.heap.size w w' ∧ ER w' (Rn w.heap.size w'.heap.size) l v
/-- What has been cloned after i rounds. -/
def CEI (w : World) (g cap : Nat) (l : List Ex) (V0 : Nat → Value) (i : Nat) (wr : World) : Prop :=
  ∃ V : Nat → Value, RowAt wr g 24 5 cap (rowsE l V) ∧ (∀ (j : Nat) e, l[j]? = some e → j < i → ER wr (fun b => w.heap.size ≤ b ∧ b < wr.heap.size ∧ b ≠ g) e.args (V j)) ∧ (∀ j, i ≤ j → V j = V0 j) ∧ Below w.heap.size w wr
theorem rowsE_set {l : List Ex} {V : Nat → Value} {i : Nat} {v : Value} (hi : i < l.length) : rowsE l (fun j => if j = i then v else V j) = (rowsE l V).set i ((eC l[i] (V i)).set 4 v) := by
  rw [show (eC l[i] (V i)).set 4 v = eC l[i] v from rfl]
  have := mapIdx_set (f := fun j e => eC e (V j)) (f' := fun j e => eC e (if j = i then v else V j)) hi (fun j hj => by simp [hj])
  simpa [rowsE] using this
theorem CEI.step {w wr w2 : World} {g cap i : Nat} {l : List Ex} {V0 : Nat → Value} {v : Value} (h : CEI w g cap l V0 i wr) (hg : w.heap.size ≤ g) (hgr : g < wr.heap.size) (hi : i < l.length) (o : Obj) (hb : Below (wr.alloc o).heap.size (wr.alloc o) w2) (hE : ER w2 (Rn (wr.alloc o).heap.size w2.heap.size) l[i].args v) :
    CEI w g cap l V0 (i + 1) (w2.setCell ⟨g, i * 5 + 4, none⟩ v) := by
  obtain ⟨V, h1, h2, h3, h4⟩ := h
  have hs : wr.heap.size < (wr.alloc o).heap.size := by simp
  have hs2 := hb.size
  have hb2 : Below wr.heap.size wr w2 := after (bal wr o) hb
  have hz : (w2.setCell ⟨g, i * 5 + 4, none⟩ v).heap.size = w2.heap.size := by simp [World.setCell]
  have hcell : ∀ b k, b ≠ g → (w2.setCell ⟨g, i * 5 + 4, none⟩ v).cell? ⟨b, k, none⟩ = w2.cell? ⟨b, k, none⟩ := fun b k hb => World.cell?_of_block (w := w2) (Below.heap_setCell w2 _ v b hb)
  refine ⟨fun j => if j = i then v else V j, ?_, ?_, ?_, ?_⟩
  · rw [rowsE_set hi]
    exact (h1.bel hb2 hgr).set1 (rowsE_get (List.getElem?_eq_getElem hi)) (by omega) v
  · intro j e hj hji
    by_cases hjj : j = i
    · subst hjj
      rw [List.getElem?_eq_getElem hi] at hj
      cases hj
      simp only [if_true]
      refine hE.keep (fun b hb => ⟨by have := hb.1; omega, by rw [hz]; exact hb.2, by have := hb.1; omega⟩) fun b k hb => hcell b k (by have := hb.1; omega)
    · simp only [hjj, if_false]
      refine (h2 j e hj (by omega)).keep (fun b hb => ⟨hb.1, by rw [hz]; have := hb.2.1; omega, hb.2.2⟩) fun b k hb => (hcell b k hb.2.2).trans (hb2.cell (p := ⟨b, k, none⟩) hb.2.1)
  · intro j hj
    simp only [show ¬ j = i by omega, if_false]
    exact h3 j (by omega)
  · exact (after h4 hb2).setCell hg v
theorem CEI.done {w wr : World} {g cap : Nat} {l : List Ex} {V0 : Nat → Value} (h : CEI w g cap l V0 l.length wr) (hg : w.heap.size ≤ g) (hl : l.length ≤ 1000) (ho : ∀ (i : Nat) e, l[i]? = some e → OkE e) : Below w.heap.size w wr ∧ ER wr (Rn w.heap.size wr.heap.size) l (.slice (some ⟨g, 0, none⟩) l.length cap) := by
  obtain ⟨V, h1, h2, _, h4⟩ := h
  refine ⟨h4, ER.of_row h1 ⟨hg, h1.lt⟩ (by omega) ho fun i e hi => ?_⟩
  exact (h2 i e hi (List.getElem?_eq_some_iff.1 hi).1).keep (fun b hb => ⟨hb.1, hb.2.1⟩) fun _ _ _ => rfl

set_option maxHeartbeats 1000000 in
theorem cloneExprs_nil (A : Option Addr) (n c : Nat) (w : World) (h : EIn w w.heap.size [] (.slice A n c)) :
    Calls Tryd.prog 79 #[.slice A n c] w (CloneE w []) := by
  obtain ⟨V, _, C⟩ := cloneE_list [] (by simp) A n c w h
  have HC := Lib.hid C
  clear C h
  go_enter Tryd.func79, Tryd.ntmps79
  go_wp2_with fail
  refine HC.out.mono ?_
  rintro e w1 ⟨hb, h⟩
  have HB := Lib.hid hb
  clear hb
  rcases h with ⟨_, A', c', rfl⟩ | ⟨g, cap, rfl, _, _⟩
  · go_wp2_with fail
    refine wp_loop_rounds 1 ?_
    rw [rounds_succ]
    go_wp2_with fail
    go_ret
    exact ⟨_, rfl, HB.out, ER.nil _ _⟩
  · rw [rowsE_len]
    go_wp2_with fail
    refine wp_loop_rounds 1 ?_
    rw [rounds_succ]
    go_wp2_with fail
    go_ret
    exact ⟨_, rfl, HB.out, ER.nil _ _⟩

set_option maxRecDepth 100000 in
set_option maxHeartbeats 4000000 in
theorem cloneExprs_calls (k : Nat) : ∀ (l : List Ex) (v : Value) (w : World), l.length ≤ 1000 → (∀ e ∈ l, dep k e ≠ 0) → EIn w w.heap.size l v →
    Calls Tryd.prog 79 #[v] w (CloneE w l) := by
  induction k with
  | zero =>
    intro l v w _ hd hE
    obtain ⟨A, c, rfl⟩ := hE.slice
    rcases l with _ | ⟨e, l⟩
    · exact cloneExprs_nil A _ c w hE
    · exact absurd rfl (hd e (by simp))
  | succ k ih =>
    intro l v w hl hd hE
    obtain ⟨A, c, rfl⟩ := hE.slice
    rcases Nat.eq_zero_or_pos l.length with h0 | h0
    · obtain rfl := List.eq_nil_of_length_eq_zero h0
      exact cloneExprs_nil A _ c w hE
    · have IH := Lib.hid ih
      obtain ⟨V0, hV0, C⟩ := cloneE_list l hl A _ c w hE
      have HC := Lib.hid C
      have HV := Lib.hid hV0
      have HD := Lib.hid hd
      have hne : rowsE l V0 ≠ [] := fun e => by have := rowsE_len l V0; rw [e] at this; simp at this; omega
      have HNE := Lib.hid hne
      clear ih C hE hV0 hd hne
      go_enter Tryd.func79, Tryd.ntmps79
      go_wp2_with fail
      refine HC.out.mono ?_
      rintro e w1 ⟨hb, h⟩
      rcases h with ⟨h, _⟩ | ⟨g, cap, rfl, hg, hr⟩
      · exact absurd h HNE.out
      have HI := Lib.hid (show CEI w g cap l V0 0 w1 from ⟨V0, hr, fun j e _ h => by omega, fun _ _ => rfl, hb⟩)
      have hgw := hr.lt
      have HG0 := hg
      rw [rowsE_len]
      clear hb hr
      go_wp2_with fail
      go_loopw [9] (fun c wr => ∃ i : Nat, i ≤ l.length ∧ c = .int .i64 i ∧ g < wr.heap.size ∧ CEI w g cap l V0 i wr) (fun c _ => l.length - (intOf c).toNat)
      case atStart => exact ⟨0, by omega, rfl, hgw, HI.out⟩
      case round =>
        obtain ⟨i, hi, rfl, hgr, hinv⟩ := hrel
        have HJ := Lib.hid hinv
        clear hinv hgw
        by_cases hlt : i < l.length
        · have hrow : ∃ V : Nat → Value, RowAt wr g 24 5 cap (rowsE l V) ∧ V i = V0 i ∧ Below w.heap.size w wr := by
            obtain ⟨V, h1, _, h3, h4⟩ := HJ.out
            exact ⟨V, h1, h3 i (Nat.le_refl _), h4⟩
          obtain ⟨V, h1, h3, h4⟩ := hrow
          have hge := rowsE_get (V := V) (List.getElem?_eq_getElem hlt)
          rw [h3] at hge
          have cc := fun (j : Nat) u hj => h1.cell (j := j) (u := u) hge hj
          have c0 := cc 0 _ rfl
          have c1 := cc 1 _ rfl
          have c2 := cc 2 _ rfl
          have c3 := cc 3 _ rfl
          have c4 := cc 4 _ rfl
          rw [Nat.add_zero] at c0
          obtain ⟨hoe, hsub⟩ := HV.out i _ (List.getElem?_eq_getElem hlt)
          obtain ⟨A', c', hs⟩ := hsub.slice
          rw [hs] at c4 hsub
          have HS := Lib.hid (hsub.up h4)
          have HR1 := Lib.hid h1
          have HST := Lib.hid (fun o w2 v hb hE => HJ.out.step (w2 := w2) (v := v) HG0 hgr hlt o hb hE)
          have HDD := Lib.hid (dep_args (HD.out _ (List.getElem_mem hlt)))
          clear cc hge h1 h3 h4 hs hsub
          generalize l[i] = x at *
          go_wp2_with fail
          refine (IH.out x.args _ _ (by have := fitB_args HDD.out.1; omega) HDD.out.2 (HS.out.al _)).mono ?_
          rintro e w2 ⟨v', rfl, hb, hE2⟩
          obtain ⟨A2, c2', rfl⟩ := hE2.slice
          have HN := Lib.hid (HST.out _ _ _ hb hE2)
          have hz2 : wr.heap.size + 1 ≤ w2.heap.size := by have := hb.size; simpa using this
          have R2 := (HR1.out.bel (after (bal wr _) hb) hgr)
          have cW : ∃ u, w2.cell? ⟨g, i * 5 + 4, none⟩ = some u := ⟨_, R2.cell (rowsE_get (List.getElem?_eq_getElem hlt)) (j := 4) rfl⟩
          obtain ⟨u4, cW⟩ := cW
          have fW := R2.free (i * 5 + 4)
          clear hb hE2 R2 c0 c1 c2 c3 c4
          go_wp2_with fail
          go_roundw
          case rel => exact ⟨i + 1, by omega, by go_num, by simp [World.setCell]; omega, HN.out⟩
          case measure => simp [intOf]; omega
        · obtain rfl : i = l.length := by omega
          have HD2 := Lib.hid (HJ.out.done HG0 hl fun i e he => (HV.out i e he).1)
          go_wp2_with fail
          go_ret
          exact ⟨_, rfl, HD2.out.1, HD2.out.2⟩
end Go.Proofs.YtodicpnojcaanaaDoor

namespace Go.Proofs.YtodicpnojcaanaaDoor
open Go Go.RowKit

/-! ### plain laws -/
def numbPre (k : Nat) (l : List St) (n0 : Int) (i : Nat) : List St × Int := (l.take i).foldl (numbS (numbL k)) ([], n0)
def mid (k : Nat) (l : List St) (n0 : Int) (i : Nat) : List St := (numbPre k l n0 i).1 ++ l.drop i
/-- A statement with its number, n, and those of its blocks. -/
def numbSt (k : Nat) (n : Int) (s : St) : St := { s with no := n, body := (numbL k s.body (n + 1)).1, els := (numbL k s.els (numbL k s.body (n + 1)).2).1 }
theorem numbPre_succ {k : Nat} {l : List St} {n0 : Int} {i : Nat} (h : i < l.length) : numbPre k l n0 (i + 1) = ((numbPre k l n0 i).1 ++ [numbSt k (numbPre k l n0 i).2 l[i]], (numbL k l[i].els (numbL k l[i].body ((numbPre k l n0 i).2 + 1)).2).2) := by
  unfold numbPre
  rw [List.take_succ_eq_append_getElem h, List.foldl_append]
  rfl
theorem numbPre_len (k : Nat) (l : List St) (n0 : Int) : ∀ i, i ≤ l.length → (numbPre k l n0 i).1.length = i := by
  intro i
  induction i with
  | zero => intro _; rfl
  | succ i ih => intro h; rw [numbPre_succ (by omega)]; simp [ih (by omega)]
theorem mid_len {k : Nat} {l : List St} {n0 : Int} {i : Nat} (h : i ≤ l.length) : (mid k l n0 i).length = l.length := by
  unfold mid
  rw [List.length_append, numbPre_len k l n0 i h, List.length_drop]
  omega
theorem mid_ge {k : Nat} {l : List St} {n0 : Int} {i j : Nat} (h : i ≤ l.length) (hj : i ≤ j) : (mid k l n0 i)[j]? = l[j]? := by
  unfold mid
  rw [List.getElem?_append_right (by rw [numbPre_len k l n0 i h]; exact hj), numbPre_len k l n0 i h, List.getElem?_drop]
  congr 1
  omega
theorem mid_succ {k : Nat} {l : List St} {n0 : Int} {i : Nat} (h : i < l.length) : mid k l n0 (i + 1) = (mid k l n0 i).set i (numbSt k (numbPre k l n0 i).2 l[i]) := by
  unfold mid
  rw [numbPre_succ h, List.set_append_right _ _ (by rw [numbPre_len k l n0 i (by omega)]; omega), numbPre_len k l n0 i (by omega), Nat.sub_self, List.drop_eq_getElem_cons h]
  simp only [List.append_assoc, List.set_cons_zero, List.singleton_append]
theorem mid_done (k : Nat) (l : List St) (n0 : Int) : mid k l n0 l.length = (numbL (k + 1) l n0).1 := by
  unfold mid numbPre
  rw [List.take_length, List.drop_length, List.append_nil, numbL]
theorem mid_zero (k : Nat) (l : List St) (n0 : Int) : mid k l n0 0 = l := by simp [mid, numbPre]
theorem numb_vis (F : Nat → St → Bool) (k : Nat) : ∀ (l : List St) (n0 m : Nat), vis F k l n0 = some m → (numbL k l n0).2 = m := by
  induction k with
  | zero =>
    intro l n0 m h
    unfold vis at h
    split at h
    · simp at h; simp [numbL, h]
    · cases h
  | succ k ih =>
    intro l n0 m h
    rw [vis_succ] at h
    rw [numbL]
    have key : ∀ (l : List St) (acc : List St) (n0 m : Nat), l.foldlM (visS F k) n0 = some m → (l.foldl (numbS (numbL k)) (acc, (n0 : Int))).2 = m := by
      intro l
      induction l with
      | nil => intro acc n0 m h; simp at h; simp [h]
      | cons s l ihl =>
        intro acc n0 m h
        rw [List.foldlM_cons] at h
        unfold visS at h
        split at h
        · simp at h
        · simp only [Option.bind_eq_bind] at h
          rw [Option.bind_assoc, Option.bind_eq_some_iff] at h
          obtain ⟨a, ha, h⟩ := h
          rw [Option.bind_eq_some_iff] at h
          obtain ⟨b, hb, h⟩ := h
          rw [List.foldl_cons]
          have e1 := ih _ _ _ ha
          have e2 := ih _ _ _ hb
          have : numbS (numbL k) (acc, (n0 : Int)) s = (acc ++ [numbSt k n0 s], (b : Int)) := by
            simp only [numbS, numbSt]
            rw [show ((n0 : Int) + 1) = ((n0 + 1 : Nat) : Int) by omega, e1, e2]
          rw [this]
          exact ihl _ _ _ h
    exact key l [] n0 m h
theorem pre_vis (F : Nat → St → Bool) (k : Nat) (l : List St) (i : Nat) (n0 n : Nat) (h : (l.take i).foldlM (visS F k) n0 = some n) : (numbPre k l n0 i).2 = n := by
  have := numb_vis F (k + 1) (l.take i) n0 n (by rw [vis_succ]; exact h)
  rw [numbL] at this
  exact this
theorem vis_len (F : Nat → St → Bool) (k : Nat) : ∀ (l : List St) (n0 m : Nat), vis F k l n0 = some m → n0 ≤ 200 → l.length ≤ m - n0 := by
  cases k with
  | zero =>
    intro l n0 m h _
    unfold vis at h
    split at h
    · rename_i h1; subst h1; simp
    · cases h
  | succ k =>
    intro l
    induction l with
    | nil => intro n0 m _ _; simp
    | cons s l ih =>
      intro n0 m h h0
      rw [vis_succ, List.foldlM_cons] at h
      unfold visS at h
      split at h
      · simp at h
      · rename_i hc
        simp only [Option.bind_eq_bind] at h
        rw [Option.bind_assoc, Option.bind_eq_some_iff] at h
        obtain ⟨a, ha, h⟩ := h
        rw [Option.bind_eq_some_iff] at h
        obtain ⟨b, hb, h⟩ := h
        have i1 := vis_bounds F k _ _ _ ha (by omega)
        have i2 := vis_bounds F k _ _ _ hb (by omega)
        have i3 := ih b m (by rw [vis_succ]; exact h) (by omega)
        have i4 := vis_bounds F (k + 1) l b m (by rw [vis_succ]; exact h) (by omega)
        simp only [List.length_cons]
        omega
/-- What follows of a visit that goes through: at each statement. -/
theorem vis_at {F : Nat → St → Bool} {k : Nat} {l : List St} {n0 m : Nat} (h : vis F (k + 1) l n0 = some m) (h0 : n0 ≤ 200) {i n : Nat} (hi : i < l.length) (hf : (l.take i).foldlM (visS F k) n0 = some n) :
    ∃ a b, n < 200 ∧ F n l[i] = true ∧ vis F k l[i].body (n + 1) = some a ∧ vis F k l[i].els a = some b ∧ (l.take (i + 1)).foldlM (visS F k) n0 = some b ∧ a ≤ 200 ∧ b ≤ 200 := by
  have hn := vis_bounds F (k + 1) (l.take i) n0 n (by rw [vis_succ]; exact hf) h0
  have hs := fold_snoc (F := F) (k := k) (n0 := n0) hi
  rw [hf, Option.bind_some] at hs
  cases hv : visS F k n l[i] with
  | none => rw [fold_none hi hf hv] at h; cases h
  | some b =>
    rw [hv] at hs
    unfold visS at hv
    split at hv
    · cases hv
    · rename_i hc
      rw [Option.bind_eq_some_iff] at hv
      obtain ⟨a, ha, hb⟩ := hv
      have i1 := vis_bounds F k _ _ _ ha (by omega)
      have i2 := vis_bounds F k _ _ _ hb (by omega)
      exact ⟨a, b, by omega, by simpa using fun hh => hc (.inr hh), ha, hb, hs, by omega, by omega⟩
theorem headB_args {s : St} (h : headB s = true) : s.args.length ≤ 8 ∧ ∀ e ∈ s.args, dep 20 e ≠ 0 := by
  unfold headB at h
  cases hr : stRow s.kind with
  | none => rw [hr] at h; cases h
  | some r =>
    rw [hr] at h
    simp only [rowHead, Bool.and_eq_true, decide_eq_true_eq] at h
    have h2 : r.most ≤ 8 := by
      unfold stRow at hr
      repeat' (split at hr)
      all_goals first | (cases hr; simp) | cases hr
    refine ⟨by omega, fun e he => ?_⟩
    have := h.1.1.2
    unfold exsB at this
    rw [List.all_eq_true] at this
    simpa [exB] using this e he

/-! ### boxes as rows -/
abbrev BX (w : World) (b : Nat) (s : St) (va vb ve : Value) : Prop := RowAt w b 46 8 1 [sC s va vb ve]
section
variable {w w' : World} {b N S : Nat} {s : St} {va vb ve : Value}
theorem BX.new (w : World) (s : St) (va vb ve : Value) : BX (w.alloc (sO s va vb ve)) w.heap.size s va vb ve := by
  refine ⟨_, heap_alloc_new w _, rfl, Nat.le_refl _, fun r hr => ?_, fun i r j u hi hj => ?_⟩
  · simp only [List.mem_cons, List.not_mem_nil, or_false] at hr; subst hr; rfl
  · match i, hi with
    | 0, hi =>
      cases hi
      rw [Nat.zero_mul, Nat.zero_add, List.getElem?_toArray]
      exact hj
    | i + 1, hi => simp at hi
theorem BX.at_ (h : BX w b s va vb ve) : SBox w b s va vb ve := by
  have c := fun (j : Nat) u hj => RowAt.cell h (i := 0) (j := j) (u := u) (r := sC s va vb ve) rfl hj
  have c0 := c 0 _ rfl
  have c1 := c 1 _ rfl
  have c2 := c 2 _ rfl
  have c3 := c 3 _ rfl
  have c4 := c 4 _ rfl
  have c5 := c 5 _ rfl
  have c6 := c 6 _ rfl
  have c7 := c 7 _ rfl
  exact ⟨c0, c1, c2, c3, c4, c5, c6, c7⟩
theorem BX.set5 (h : BX w b s va vb ve) (u : Value) : BX (w.setCell ⟨b, 5, none⟩ u) b s u vb ve := RowAt.set1 h (i := 0) (j := 5) (r := sC s va vb ve) rfl (by omega) u
theorem BX.set6 (h : BX w b s va vb ve) (u : Value) : BX (w.setCell ⟨b, 6, none⟩ u) b s va u ve := RowAt.set1 h (i := 0) (j := 6) (r := sC s va vb ve) rfl (by omega) u
theorem BX.set7 (h : BX w b s va vb ve) (u : Value) : BX (w.setCell ⟨b, 7, none⟩ u) b s va vb u := RowAt.set1 h (i := 0) (j := 7) (r := sC s va vb ve) rfl (by omega) u
end
theorem Fr.setNew {N S : Nat} {w a : World} (h : Fr N S w a) {p : Addr} (hp : w.heap.size ≤ p.block) (u : Value) : Fr N S w (a.setCell p u) :=
  ⟨h.os, h.tape, h.output, by simpa [World.setCell] using h.size, fun i hi h1 h2 => (Below.heap_setCell a p u i (by omega)).trans (h.block i hi h1 h2)⟩
theorem size_set (w : World) (p : Addr) (u : Value) : (w.setCell p u).heap.size = w.heap.size := by simp [World.setCell]

/-! ### what has been done after i rounds -/
structure New (w : World) (R : Nat → Prop) (s : St) (va vb ve : Value) : Prop where
  ok : OkS s
  a : ER w R s.args va
  b : SR w R s.body vb
  e : SR w R s.els ve
theorem New.keep {w w' : World} {R R' : Nat → Prop} {s : St} {va vb ve : Value} (h : New w R s va vb ve) (hR : ∀ b, R b → R' b) (hk : ∀ b i, R b → w'.cell? ⟨b, i, none⟩ = w.cell? ⟨b, i, none⟩) : New w' R' s va vb ve :=
  ⟨h.ok, h.a.keep hR hk, h.b.keep hR hk, h.e.keep hR hk⟩
def CSI (w : World) (N g cap k : Nat) (l : List St) (V0 : Nat → Value × Value × Value) (n0 : Int) (i : Nat) (wr : World) : Prop :=
  ∃ V : Nat → Value × Value × Value, RowAt wr g 46 8 cap (rowsS (mid k l n0 i) V) ∧
    (∀ (j : Nat) s, (mid k l n0 i)[j]? = some s → j < i → New wr (fun b => w.heap.size ≤ b ∧ b < wr.heap.size ∧ b ≠ g) s (V j).1 (V j).2.1 (V j).2.2) ∧ (∀ j, i ≤ j → V j = V0 j) ∧ Fr N N w wr
theorem rowsS_set {l : List St} {V : Nat → Value × Value × Value} {i : Nat} (s : St) (va vb ve : Value) (hi : i < l.length) : rowsS (l.set i s) (fun j => if j = i then (va, vb, ve) else V j) = (rowsS l V).set i (sC s va vb ve) := by
  apply List.ext_getElem?
  intro j
  by_cases hj : j = i
  · subst hj
    rw [List.getElem?_set_self (by rw [rowsS_len]; exact hi)]
    rw [rowsS_get (List.getElem?_set_self hi)]
    simp
  · rw [List.getElem?_set_ne (by omega)]
    simp only [rowsS, List.getElem?_mapIdx, List.getElem?_set_ne (Ne.symm hj), hj, if_false]
abbrev store8 (w : World) (g i : Nat) (s : St) (va vb ve : Value) : World :=
  ((((((((w.setCell ⟨g, i * 8, none⟩ (.int .i64 s.kind)).setCell ⟨g, i * 8 + 1, none⟩ (.int .i64 s.no)).setCell ⟨g, i * 8 + 2, none⟩ (.string (B s.name))).setCell ⟨g, i * 8 + 3, none⟩ (.int .i64 s.typ)).setCell ⟨g, i * 8 + 4, none⟩ (.string (B s.callee))).setCell ⟨g, i * 8 + 5, none⟩ va).setCell ⟨g, i * 8 + 6, none⟩ vb).setCell ⟨g, i * 8 + 7, none⟩ ve)
theorem store8_size (w : World) (g i : Nat) (s : St) (va vb ve : Value) : (store8 w g i s va vb ve).heap.size = w.heap.size := by simp only [store8, size_set]
theorem store8_cell (w : World) (g i : Nat) (s : St) (va vb ve : Value) {b : Nat} (hb : b ≠ g) (k : Nat) : (store8 w g i s va vb ve).cell? ⟨b, k, none⟩ = w.cell? ⟨b, k, none⟩ := by
  apply World.cell?_of_block
  simp only [store8]
  rw [Below.heap_setCell _ _ _ b hb, Below.heap_setCell _ _ _ b hb, Below.heap_setCell _ _ _ b hb, Below.heap_setCell _ _ _ b hb, Below.heap_setCell _ _ _ b hb, Below.heap_setCell _ _ _ b hb, Below.heap_setCell _ _ _ b hb, Below.heap_setCell _ _ _ b hb]
theorem store8_heap (w : World) (g i : Nat) (s : St) (va vb ve : Value) {b : Nat} (hb : b ≠ g) : (store8 w g i s va vb ve).heap[b]? = w.heap[b]? := by
  simp only [store8]
  rw [Below.heap_setCell _ _ _ b hb, Below.heap_setCell _ _ _ b hb, Below.heap_setCell _ _ _ b hb, Below.heap_setCell _ _ _ b hb, Below.heap_setCell _ _ _ b hb, Below.heap_setCell _ _ _ b hb, Below.heap_setCell _ _ _ b hb, Below.heap_setCell _ _ _ b hb]
theorem store8_fr {w a : World} {N S : Nat} (h : Fr N S w a) {g : Nat} (hg : w.heap.size ≤ g) (i : Nat) (s : St) (va vb ve : Value) : Fr N S w (store8 a g i s va vb ve) :=
  (((((((h.setNew (p := ⟨g, _, none⟩) hg _).setNew (p := ⟨g, _, none⟩) hg _).setNew (p := ⟨g, _, none⟩) hg _).setNew (p := ⟨g, _, none⟩) hg _).setNew (p := ⟨g, _, none⟩) hg _).setNew (p := ⟨g, _, none⟩) hg _).setNew (p := ⟨g, _, none⟩) hg _).setNew (p := ⟨g, _, none⟩) hg _
theorem CSI.step {w wr w7 : World} {N g cap k i : Nat} {l : List St} {V0 : Nat → Value × Value × Value} {n0 : Int} {va vb ve : Value} (h : CSI w N g cap k l V0 n0 i wr) (hg : w.heap.size ≤ g) (hgN : g ≠ N) (hNw : N < w.heap.size) (hi : i < l.length) (hf : Fr N N wr w7)
    (hN : New w7 (fun b => wr.heap.size < b ∧ b < w7.heap.size) (numbSt k (numbPre k l n0 i).2 l[i]) va vb ve) :
    CSI w N g cap k l V0 n0 (i + 1) (store8 w7 g i (numbSt k (numbPre k l n0 i).2 l[i]) va vb ve) := by
  obtain ⟨V, h1, h2, h3, h4⟩ := h
  have hgr := h1.lt
  have hs := hf.size
  have hs0 := h4.size
  have hml : i < (mid k l n0 i).length := by rw [mid_len (by omega)]; exact hi
  refine ⟨fun j => if j = i then (va, vb, ve) else V j, ?_, ?_, ?_, ?_⟩
  · rw [mid_succ hi, rowsS_set _ _ _ _ hml]
    exact (h1.fr hf hgN hgN).set8 (rowsS_get (List.getElem?_eq_getElem hml)) _ _ _ _ _ _ _ _
  · intro j s hj hji
    rw [mid_succ hi] at hj
    by_cases hjj : j = i
    · subst hjj
      rw [List.getElem?_set_self hml] at hj
      cases hj
      simp only [if_true]
      exact hN.keep (fun b hb => ⟨by have := hb.1; omega, by rw [store8_size]; exact hb.2, by have := hb.1; omega⟩) fun b q hb => store8_cell _ _ _ _ _ _ _ (by have := hb.1; omega) q
    · rw [List.getElem?_set_ne (by omega)] at hj
      simp only [hjj, if_false]
      exact (h2 j s hj (by omega)).keep (fun b hb => ⟨hb.1, by rw [store8_size]; have := hb.2.1; omega, hb.2.2⟩) fun b q hb => (store8_cell _ _ _ _ _ _ _ hb.2.2 q).trans (hf.cell hb.2.1 (by have := hb.1; omega) (by have := hb.1; omega))
  · intro j hj
    simp only [show ¬ j = i by omega, if_false]
    exact h3 j (by omega)
  · exact store8_fr (h4.trans hf) hg _ _ _ _ _
theorem CSI.done {w wr : World} {N g cap k : Nat} {l : List St} {V0 : Nat → Value × Value × Value} {n0 : Int} (h : CSI w N g cap k l V0 n0 l.length wr) (hg : w.heap.size ≤ g) (hl : l.length ≤ 1000) :
    Fr N N w wr ∧ SR wr (Rn w.heap.size wr.heap.size) (numbL (k + 1) l n0).1 (.slice (some ⟨g, 0, none⟩) l.length cap) := by
  obtain ⟨V, h1, h2, _, h4⟩ := h
  have hlen := mid_len (k := k) (l := l) (n0 := n0) (Nat.le_refl _)
  have hsub := fun (i : Nat) (s : St) (hi : (mid k l n0 l.length)[i]? = some s) => (h2 i s hi (by have := (List.getElem?_eq_some_iff.1 hi).1; omega)).keep (w' := wr) (R' := Rn w.heap.size wr.heap.size) (fun b hb => ⟨hb.1, hb.2.1⟩) fun _ _ _ => rfl
  have := SR.of_row (R := Rn w.heap.size wr.heap.size) h1 ⟨hg, h1.lt⟩ (by rw [hlen]; omega) (fun i s hi => (hsub i s hi).ok) (fun i s hi => (hsub i s hi).a) (fun i s hi => (hsub i s hi).b) (fun i s hi => (hsub i s hi).e)
  rw [hlen] at this
  rw [← mid_done]
  exact ⟨h4, this⟩
end Go.Proofs.YtodicpnojcaanaaDoor

namespace Go.Proofs.YtodicpnojcaanaaDoor
open Go Go.RowKit

abbrev numF (N K : Nat) : Value := .func (.func 77) #[] #[.pointer (some ⟨N, 0, none⟩), .pointer (some ⟨K, 0, none⟩)]
abbrev IntAt (w : World) (N : Nat) (n : Nat) : Prop := w.heap[N]? = some (.cells #[.int .i64 (n : Int)] 3 (0, 0))
def NumR (N k : Nat) (l : List St) (n0 m : Nat) (w : World) (e : Ending) (w' : World) : Prop :=
  ∃ v, e = .returned v ∧ Fr N N w w' ∧ SR w' (Rn w.heap.size w'.heap.size) (numbL k l n0).1 v ∧ IntAt w' N m

set_option maxHeartbeats 1000000 in
theorem number1_nil (N K M k n0 : Nat) (A : Option Addr) (n c : Nat) (w : World) (hM : M ≤ w.heap.size) (h : SIn w M [] (.slice A n c)) (hN : IntAt w N n0) :
    Calls Tryd.prog 77 #[.slice A n c, .pointer (some ⟨N, 0, none⟩), .pointer (some ⟨K, 0, none⟩)] w (NumR N k [] n0 n0 w) := by
  obtain ⟨V, _, C⟩ := cloneS_list [] (by simp) A n c M w hM h
  have HC := Lib.hid C
  have HN := Lib.hid hN
  have he : (numbL k [] (n0 : Int)).1 = [] := by cases k <;> rfl
  have HE := Lib.hid he
  clear C h hN he
  go_enter Tryd.func77, Tryd.ntmps77
  go_wp2_with fail
  refine HC.out.mono ?_
  rintro e w1 ⟨hb, h⟩
  have HF := Lib.hid (Fr.of (N := N) (S := N) hb)
  have HN1 := Lib.hid ((hb.block N (lt_of_block HN.out)).trans HN.out)
  clear hb
  rcases h with ⟨_, A', c', rfl⟩ | ⟨g, cap, rfl, _, _⟩
  · go_wp2_with fail
    refine wp_loop_rounds 1 ?_
    rw [rounds_succ]
    go_wp2_with fail
    go_ret
    exact ⟨_, rfl, HF.out, by rw [HE.out]; exact SR.nil _ _, HN1.out⟩
  · rw [rowsS_len]
    go_wp2_with fail
    refine wp_loop_rounds 1 ?_
    rw [rounds_succ]
    go_wp2_with fail
    go_ret
    exact ⟨_, rfl, HF.out, by rw [HE.out]; exact SR.nil _ _, HN1.out⟩

set_option maxRecDepth 100000 in
set_option maxHeartbeats 8000000 in
theorem number1_calls (N K M : Nat) (hMN : M ≤ N) (_hMK : M ≤ K) (hNK : N ≠ K) (k : Nat) : ∀ (l : List St) (v : Value) (n0 m : Nat) (w : World), k ≤ 20 → n0 ≤ 200 → SIn w M l v → IntAt w N n0 →
    w.heap[K]? = some (.cells #[numF N K] 109 (0, 0)) → vis FA k l n0 = some m →
    Calls Tryd.prog 77 #[v, .pointer (some ⟨N, 0, none⟩), .pointer (some ⟨K, 0, none⟩)] w (NumR N k l n0 m w) := by
  induction k with
  | zero =>
    intro l v n0 m w _ h0 hl hN hK hv
    obtain ⟨A, c, rfl⟩ := hl.slice
    have h1 : l = [] := by unfold vis at hv; split at hv; assumption; cases hv
    subst h1
    have h2 : n0 = m := by simpa [vis] using hv
    subst h2
    exact number1_nil N K M 0 n0 A _ c w (by have := lt_of_block hN; omega) hl hN
  | succ k ih =>
    intro l v n0 m w hk h0 hl hN hK hv
    obtain ⟨A, c, rfl⟩ := hl.slice
    rcases Nat.eq_zero_or_pos l.length with hl0 | hl0
    · obtain rfl := List.eq_nil_of_length_eq_zero hl0
      have h2 : n0 = m := by simpa [vis] using hv
      subst h2
      exact number1_nil N K M (k + 1) n0 A _ c w (by have := lt_of_block hN; omega) hl hN
    · have hlen := vis_len FA (k + 1) l n0 m hv h0
      have hm200 := vis_bounds FA (k + 1) l n0 m hv h0
      have hNw := lt_of_block hN
      have hKw := lt_of_block hK
      have IH := Lib.hid ih
      obtain ⟨V0, hV0, C⟩ := cloneS_list l (by omega) A _ c M w (by omega) hl
      have HC := Lib.hid C
      have HV := Lib.hid hV0
      have HVS := Lib.hid (fun (i n : Nat) hi hf => vis_at hv h0 (i := i) (n := n) hi hf)
      have HVD := Lib.hid (show l.foldlM (visS FA k) n0 = some m by rw [← vis_succ]; exact hv)
      have HN := Lib.hid hN
      have HK := Lib.hid hK
      have HNE := Lib.hid (show rowsS l V0 ≠ [] from fun e => by have := rowsS_len l V0; rw [e] at this; simp at this; omega)
      clear ih C hl hV0 hv hN hK
      go_enter Tryd.func77, Tryd.ntmps77
      go_wp2_with fail
      refine HC.out.mono ?_
      rintro e w1 ⟨hb, h⟩
      rcases h with ⟨h, _⟩ | ⟨g, cap, rfl, hg, hr⟩
      · exact absurd h HNE.out
      have HI := Lib.hid (show CSI w N g cap k l V0 n0 0 w1 from ⟨V0, by rw [mid_zero]; exact hr, fun j e _ h => by omega, fun _ _ => rfl, Fr.of hb⟩)
      have HN1 := Lib.hid (show IntAt w1 N n0 from (hb.block N hNw).trans HN.out)
      have hgw := hr.lt
      have hgN : g ≠ N := by omega
      have hgK : g ≠ K := by omega
      have HG0 := Lib.hid hg
      rw [rowsS_len]
      clear hb hr
      go_wp2_with fail
      go_loopw [11] (fun c wr => ∃ (i n : Nat), i ≤ l.length ∧ c = .int .i64 i ∧ n ≤ 200 ∧ g < wr.heap.size ∧ (l.take i).foldlM (visS FA k) n0 = some n ∧ IntAt wr N n ∧ CSI w N g cap k l V0 n0 i wr) (fun c _ => l.length - (intOf c).toNat)
      case atStart => exact ⟨0, n0, by omega, rfl, h0, hgw, rfl, HN1.out, HI.out⟩
      case round =>
        obtain ⟨i, n, hi, rfl, hn, hgr, hfold, hcN, hinv⟩ := hrel
        have HJ := Lib.hid hinv
        have HFO := Lib.hid hfold
        have HcN := Lib.hid hcN
        clear hinv hgw hfold hcN
        by_cases hlt : i < l.length
        · have hrow : ∃ V, RowAt wr g 46 8 cap (rowsS (mid k l n0 i) V) ∧ V i = V0 i ∧ Fr N N w wr := by
            obtain ⟨V, h1, _, h3, h4⟩ := HJ.out
            exact ⟨V, h1, h3 i (Nat.le_refl _), h4⟩
          obtain ⟨V, h1, h3, h4⟩ := hrow
          have hge := rowsS_get (V := V) (show (mid k l n0 i)[i]? = some l[i] by rw [mid_ge (by omega) (Nat.le_refl _)]; exact List.getElem?_eq_getElem hlt)
          rw [h3] at hge
          have cc := fun (j : Nat) u hj => h1.cell (j := j) (u := u) hge hj
          have c0 := cc 0 _ rfl
          have c1 := cc 1 _ rfl
          have c2 := cc 2 _ rfl
          have c3 := cc 3 _ rfl
          have c4 := cc 4 _ rfl
          have c5 := cc 5 _ rfl
          have c6 := cc 6 _ rfl
          have c7 := cc 7 _ rfl
          rw [Nat.add_zero] at c0
          obtain ⟨hos, ha, hb, he⟩ := HV.out i _ (List.getElem?_eq_getElem hlt)
          obtain ⟨Aa, ca, hsa⟩ := ha.slice
          obtain ⟨Ab, cb, hsb⟩ := hb.slice
          obtain ⟨Ae, ce, hse⟩ := he.slice
          rw [hsa] at c5 ha
          rw [hsb] at c6 hb
          rw [hse] at c7 he
          have hz := h4.size
          have hMb : Below M w wr := h4.below (by omega) hMN hMN
          have HA := Lib.hid (ha.bel hMb)
          have HB := Lib.hid (hb.bel hMb)
          have HE := Lib.hid (he.bel hMb)
          have HR1 := Lib.hid h1
          have HF4 := Lib.hid h4
          have HOS := Lib.hid hos
          have hKr := h4.heap HK.out (by omega) (by omega)
          have HKr := Lib.hid hKr
          obtain ⟨a, b, hn200, hFn, hva, hvb, hfn, ha2, hb2⟩ := HVS.out i n hlt HFO.out
          have HFA := Lib.hid (headB_args hFn)
          have HVA := Lib.hid hva
          have HVB := Lib.hid hvb
          have HFN := Lib.hid hfn
          have HPN := Lib.hid (pre_vis FA k l i n0 n HFO.out)
          have HST := Lib.hid (fun w7 va vb ve hf hN => HJ.out.step (w7 := w7) (va := va) (vb := vb) (ve := ve) HG0.out hgN hNw hlt hf hN)
          have HMI := Lib.hid (show (mid k l n0 i)[i]? = some l[i] by rw [mid_ge (by omega) (Nat.le_refl _)]; exact List.getElem?_eq_getElem hlt)
          have hcN := cell_of_one HcN.out
          have hfN := free_of_one HcN.out
          clear cc hge h1 h3 hsa hsb hse ha hb he h4 hMb hKr hva hvb hfn hos hFn
          generalize l[i] = s at *
          have hni : (n : Int) + 1 ≤ 200 := by omega
          have hNr : N < wr.heap.size := by omega
          have hKrs : K < wr.heap.size := by omega
          have hbx : wr.heap.size ≠ N := by omega
          have hMr : M ≤ wr.heap.size := by omega
          have F0 : Fr N N wr ((wr.setCell ⟨N, 0, none⟩ (.int .i64 ((n : Int) + 1))).alloc (sO { s with no := (n : Int) } (.slice Aa s.args.length ca) (.slice Ab s.body.length cb) (.slice Ae s.els.length ce))) := ((Fr.refl N N wr).set (.inl rfl) _).alloc _
          have X0 : BX ((wr.setCell ⟨N, 0, none⟩ (.int .i64 ((n : Int) + 1))).alloc (sO { s with no := (n : Int) } (.slice Aa s.args.length ca) (.slice Ab s.body.length cb) (.slice Ae s.els.length ce))) wr.heap.size { s with no := (n : Int) } (.slice Aa s.args.length ca) (.slice Ab s.body.length cb) (.slice Ae s.els.length ce) := by
            have := BX.new (wr.setCell ⟨N, 0, none⟩ (.int .i64 ((n : Int) + 1))) { s with no := (n : Int) } (.slice Aa s.args.length ca) (.slice Ab s.body.length cb) (.slice Ae s.els.length ce)
            rwa [size_set] at this
          have N0 : IntAt ((wr.setCell ⟨N, 0, none⟩ (.int .i64 ((n : Int) + 1))).alloc (sO { s with no := (n : Int) } (.slice Aa s.args.length ca) (.slice Ab s.body.length cb) (.slice Ae s.els.length ce))) N (n + 1) :=
            ((bal _ _).block N (by rw [size_set]; exact hNr)).trans (one_setCell HcN.out)
          have Z0 : ((wr.setCell ⟨N, 0, none⟩ (.int .i64 ((n : Int) + 1))).alloc (sO { s with no := (n : Int) } (.slice Aa s.args.length ca) (.slice Ab s.body.length cb) (.slice Ae s.els.length ce))).heap.size = wr.heap.size + 1 := by rw [sz1, size_set]
          have A0 := (HA.out.bel (F0.below hMr hMN hMN)).keep (M' := wr.heap.size + 1) (by omega) fun _ _ _ => rfl
          have HF0 := Lib.hid F0
          have HX0 := Lib.hid X0
          have HN0 := Lib.hid N0
          have HZ0 := Lib.hid Z0
          have HA0 := Lib.hid A0
          clear F0 X0 N0 Z0 A0
          go_wp2_with fail
          refine (cloneExprs_calls 20 s.args _ _ (by have := HFA.out.1; omega) HFA.out.2 ?_).mono ?_
          · show EIn _ (((wr.setCell ⟨N, 0, none⟩ (.int .i64 ((n : Int) + 1))).alloc (sO { s with no := (n : Int) } (.slice Aa s.args.length ca) (.slice Ab s.body.length cb) (.slice Ae s.els.length ce))).heap.size) _ _
            rw [HZ0.out]
            exact HA0.out
          rintro e w2 ⟨v5, rfl, hb5, hE5⟩
          obtain ⟨A5, c5', rfl⟩ := hE5.slice
          have F2 : Fr N N wr w2 := HF0.out.trans (Fr.of hb5)
          have X2 : BX w2 wr.heap.size { s with no := (n : Int) } (.slice Aa s.args.length ca) (.slice Ab s.body.length cb) (.slice Ae s.els.length ce) := HX0.out.bel hb5 (by rw [HZ0.out]; omega)
          have N2 : IntAt w2 N (n + 1) := (hb5.block N (by rw [HZ0.out]; omega)).trans HN0.out
          have hz2 : wr.heap.size < w2.heap.size := by have := hb5.size; rw [HZ0.out] at this; omega
          have hE5' : ER w2 (fun b => wr.heap.size < b ∧ b < w2.heap.size) s.args (.slice A5 s.args.length c5') := hE5.keep (fun b hb => ⟨by have := hb.1; rw [HZ0.out] at this; omega, hb.2⟩) fun _ _ _ => rfl
          have F3 : Fr N N wr (w2.setCell ⟨wr.heap.size, 5, none⟩ (.slice A5 s.args.length c5')) := F2.setNew (p := ⟨wr.heap.size, 5, none⟩) (Nat.le_refl _) _
          have X3 := X2.set5 (.slice A5 s.args.length c5')
          have N3 : IntAt (w2.setCell ⟨wr.heap.size, 5, none⟩ (.slice A5 s.args.length c5')) N (n + 1) := (Below.heap_setCell w2 ⟨wr.heap.size, 5, none⟩ _ N (fun e => hbx e.symm)).trans N2
          have K3 := F3.heap HKr.out (by omega) (by omega)
          have cK3 := cell_of_one K3
          have q5 := X2.at_.c5
          have f5 := X2.free 5
          have q6 := X3.at_.c6
          have HF3 := Lib.hid F3
          have HX3 := Lib.hid X3
          have HN3 := Lib.hid N3
          have HK3 := Lib.hid K3
          have HE5 := Lib.hid hE5'
          clear hb5 hE5 F2 X2 N2 hE5' F3 X3 N3 K3 c0 c1 c2 c3 c4 c5 c6 c7 hcN hfN
          go_wp2_with fail
          refine (IH.out s.body _ (n + 1) a _ (by omega) (by omega) ((HB.out.bel (HF3.out.below hMr hMN hMN))) HN3.out HK3.out HVA.out).mono ?_
          rintro e w4 ⟨v6, rfl, F4, hS6, N4⟩
          obtain ⟨A6, c6', rfl⟩ := hS6.slice
          have hz4 : w2.heap.size ≤ w4.heap.size := by have := F4.size; rw [size_set] at this; exact this
          have X4 : BX w4 wr.heap.size { s with no := (n : Int) } (.slice A5 s.args.length c5') (.slice Ab s.body.length cb) (.slice Ae s.els.length ce) := HX3.out.fr F4 hbx hbx
          have E4 : ER w4 (fun b => wr.heap.size < b ∧ b < w4.heap.size) s.args (.slice A5 s.args.length c5') := HE5.out.keep (fun b hb => ⟨hb.1, by have := hb.2; omega⟩) fun b q hb => (F4.cell (by rw [size_set]; exact hb.2) (by have := hb.1; omega) (by have := hb.1; omega)).trans (World.cell?_of_block (w := w2) (Below.heap_setCell w2 _ _ b (by have := hb.1; show b ≠ wr.heap.size; omega)))
          have S4 : SR w4 (fun b => wr.heap.size < b ∧ b < w4.heap.size) (numbL k s.body ((n + 1 : Nat) : Int)).1 (.slice A6 (numbL k s.body ((n + 1 : Nat) : Int)).1.length c6') := hS6.keep (fun b hb => ⟨by have := hb.1; rw [size_set] at this; omega, hb.2⟩) fun _ _ _ => rfl
          have F4' := HF3.out.trans F4
          have F5 : Fr N N wr (w4.setCell ⟨wr.heap.size, 6, none⟩ (.slice A6 (numbL k s.body ((n + 1 : Nat) : Int)).1.length c6')) := F4'.setNew (p := ⟨wr.heap.size, 6, none⟩) (Nat.le_refl _) _
          have X5 := X4.set6 (.slice A6 (numbL k s.body ((n + 1 : Nat) : Int)).1.length c6')
          have N5 : IntAt (w4.setCell ⟨wr.heap.size, 6, none⟩ (.slice A6 (numbL k s.body ((n + 1 : Nat) : Int)).1.length c6')) N a := (Below.heap_setCell w4 ⟨wr.heap.size, 6, none⟩ _ N (fun e => hbx e.symm)).trans N4
          have K5 := F5.heap HKr.out (by omega) (by omega)
          have cK5 := cell_of_one K5
          have q6' := X4.at_.c6
          have f6 := X4.free 6
          have q7 := X5.at_.c7
          have HF5 := Lib.hid F5
          have HX5 := Lib.hid X5
          have HN5 := Lib.hid N5
          have HK5 := Lib.hid K5
          have HE4 := Lib.hid E4
          have HS4 := Lib.hid S4
          generalize (numbL k s.body ((n + 1 : Nat) : Int)).1.length = len6 at *
          clear hS6 F4 N4 X4 E4 S4 F4' F5 X5 N5 K5 cK3 q5 f5 q6
          go_wp2_with fail
          refine (IH.out s.els _ a b _ (by omega) (by omega) ((HE.out.bel (HF5.out.below hMr hMN hMN))) HN5.out HK5.out HVB.out).mono ?_
          rintro e w6 ⟨v7, rfl, F6, hS7, N6⟩
          obtain ⟨A7, c7', rfl⟩ := hS7.slice
          have hz6 : w4.heap.size ≤ w6.heap.size := by have := F6.size; rw [size_set] at this; exact this
          have hc46 : ∀ b q, wr.heap.size < b ∧ b < w4.heap.size → w6.cell? ⟨b, q, none⟩ = w4.cell? ⟨b, q, none⟩ := fun b q hb => (F6.cell (by rw [size_set]; exact hb.2) (by have := hb.1; omega) (by have := hb.1; omega)).trans (World.cell?_of_block (w := w4) (Below.heap_setCell w4 _ _ b (by have := hb.1; show b ≠ wr.heap.size; omega)))
          have hc67 : ∀ b q, wr.heap.size < b → (w6.setCell ⟨wr.heap.size, 7, none⟩ (.slice A7 (numbL k s.els (a : Int)).1.length c7')).cell? ⟨b, q, none⟩ = w6.cell? ⟨b, q, none⟩ := fun b q hb => World.cell?_of_block (w := w6) (Below.heap_setCell w6 _ _ b (by show b ≠ wr.heap.size; omega))
          have X6 := HX5.out.fr F6 hbx hbx
          have X7 := BX.set7 X6 (.slice A7 (numbL k s.els (a : Int)).1.length c7')
          have F7 : Fr N N wr (w6.setCell ⟨wr.heap.size, 7, none⟩ (.slice A7 (numbL k s.els (a : Int)).1.length c7')) := (HF5.out.trans F6).setNew (p := ⟨wr.heap.size, 7, none⟩) (Nat.le_refl _) _
          have N7 : IntAt (w6.setCell ⟨wr.heap.size, 7, none⟩ (.slice A7 (numbL k s.els (a : Int)).1.length c7')) N b := (Below.heap_setCell w6 ⟨wr.heap.size, 7, none⟩ _ N (fun e => hbx e.symm)).trans N6
          have eb : (numbL k s.body ((n : Int) + 1)) = numbL k s.body ((n + 1 : Nat) : Int) := by rw [show ((n : Int) + 1) = ((n + 1 : Nat) : Int) by omega]
          have ea : (numbL k s.body ((n + 1 : Nat) : Int)).2 = a := numb_vis FA k s.body (n + 1) a HVA.out
          have hnew : New (w6.setCell ⟨wr.heap.size, 7, none⟩ (.slice A7 (numbL k s.els (a : Int)).1.length c7')) (fun b => wr.heap.size < b ∧ b < (w6.setCell ⟨wr.heap.size, 7, none⟩ (.slice A7 (numbL k s.els (a : Int)).1.length c7')).heap.size) (numbSt k (n : Int) s) (.slice A5 s.args.length c5') (.slice A6 len6 c6') (.slice A7 (numbL k s.els (a : Int)).1.length c7') := by
            refine ⟨⟨HOS.out.kind, by show okI (n : Int); unfold okI; omega, HOS.out.typ, HOS.out.name, HOS.out.callee⟩, ?_, ?_, ?_⟩
            · exact HE4.out.keep (fun b hb => ⟨hb.1, by rw [size_set]; have := hb.2; omega⟩) fun b q hb => (hc67 b q hb.1).trans (hc46 b q hb)
            · show SR _ _ (numbL k s.body ((n : Int) + 1)).1 _
              rw [eb]
              exact HS4.out.keep (fun b hb => ⟨hb.1, by rw [size_set]; have := hb.2; omega⟩) fun b q hb => (hc67 b q hb.1).trans (hc46 b q hb)
            · show SR _ _ (numbL k s.els (numbL k s.body ((n : Int) + 1)).2).1 _
              rw [eb, ea]
              exact hS7.keep (fun b hb => ⟨by have := hb.1; rw [size_set] at this; omega, by rw [size_set]; exact hb.2⟩) fun b q hb => hc67 b q (by have := hb.1; rw [size_set] at this; omega)
          have hst := HST.out _ _ _ _ F7 (by rw [HPN.out]; exact hnew)
          rw [HPN.out] at hst
          have R7 := HR1.out.fr F7 hgN hgN
          have hge7 := rowsS_get (V := V) (show (mid k l n0 i)[i]? = some s from HMI.out)
          have cc := fun (j : Nat) u hj => R7.cell (j := j) (u := u) hge7 hj
          have d0 := cc 0 _ rfl
          have d1 := cc 1 _ rfl
          have d2 := cc 2 _ rfl
          have d3 := cc 3 _ rfl
          have d4 := cc 4 _ rfl
          have d5 := cc 5 _ rfl
          have d6 := cc 6 _ rfl
          have d7 := cc 7 _ rfl
          rw [Nat.add_zero] at d0
          have fg := R7.free
          obtain ⟨r0, r1, r2, r3, r4, r5, r6, r7⟩ := BX.at_ X7
          simp only at r0 r1 r2 r3 r4
          have q7' := (BX.at_ X6).c7
          have f7 := X6.free 7
          have HSTf := Lib.hid hst
          have HNf := Lib.hid ((store8_heap (w6.setCell ⟨wr.heap.size, 7, none⟩ (.slice A7 (numbL k s.els (a : Int)).1.length c7')) g i (numbSt k (n : Int) s) (.slice A5 s.args.length c5') (.slice A6 len6 c6') (.slice A7 (numbL k s.els (a : Int)).1.length c7') (b := N) (fun e => hgN e.symm)).trans N7)
          have hgf : g < w6.heap.size := by have := F7.size; rw [size_set] at this; omega
          clear cc hge7 R7 hst hnew ea eb N7 F7 X7 X6 hc67 hc46 hS7 F6 N6 cK5 q6' f6 q7
          generalize (numbL k s.els (a : Int)).1.length = len7 at *
          go_wp2_with fail
          go_roundw
          case rel => exact ⟨i + 1, b, by omega, by go_num, hb2, by simp only [size_set]; exact hgf, HFN.out, HNf.out, HSTf.out⟩
          case measure => simp [intOf]; omega
        · obtain rfl : i = l.length := by omega
          have HD2 := Lib.hid (HJ.out.done HG0.out (by omega))
          have hnm : n = m := by have := HFO.out; rw [List.take_length, HVD.out] at this; cases this; rfl
          subst hnm
          go_wp2_with fail
          go_ret
          exact ⟨_, rfl, HD2.out.1, HD2.out.2, HcN.out⟩
end Go.Proofs.YtodicpnojcaanaaDoor
