/-
  clone.exprs: its contract.
  Numbers of statements: plain laws; boxes as rows; what number's closure has done after i rounds.
  clone.Stmt, clone.stmts: contracts.
-/
import Derived.Test.YthiilnhiihfknaaDoorSOwn
import Derived.Laws.EntriesVeiled
namespace Go.Proofs.YthiilnhiihfknaaDoor
open Go Go.RowKit

theorem fitB_args {e : Ex} (h : fitB e = true) : e.args.length ≤ 2 := by
  unfold fitB at h
  cases hr : exRow e.kind with
  | none => rw [hr] at h; cases h
  | some r =>
    rw [hr] at h
    simp only [rowFit, Bool.and_eq_true, decide_eq_true_eq] at h
    have h2 : r.args ≤ 2 := by
      unfold exRow at hr
      repeat' (split at hr)
      all_goals first | (cases hr; simp) | cases hr
    omega
/-- New memory alone: blocks from n on, below m. -/
abbrev Rn (n m : Nat) : Nat → Prop := fun b => n ≤ b ∧ b < m
/-- A clone of these expressions. -/
def CloneE (w : World) (l : List Ex) (e : Ending) (w' : World) : Prop := ∃ v, e = .returned v ∧ Below w.heap.size w w' ∧ ER w' (Rn w.heap.size w'.heap.size) l v
/-- What has been cloned after i rounds. -/
def CEI (w : World) (g cap : Nat) (l : List Ex) (V0 : Nat → Value) (i : Nat) (wr : World) : Prop :=
  ∃ V : Nat → Value, RowAt wr g 24 5 cap (rowsE l V) ∧ (∀ (j : Nat) e, l[j]? = some e → j < i → ER wr (fun b => w.heap.size ≤ b ∧ b < wr.heap.size ∧ b ≠ g) e.args (V j)) ∧ (∀ j, i ≤ j → V j = V0 j) ∧ Below w.heap.size w wr
theorem rowsE_set {l : List Ex} {V : Nat → Value} {i : Nat} {v : Value} (hi : i < l.length) : rowsE l (fun j => if j = i then v else V j) = (rowsE l V).set i ((eC l[i] (V i)).set 4 v) := by
  rw [show (eC l[i] (V i)).set 4 v = eC l[i] v from rfl]
  have := mapIdx_set (f := fun j e => eC e (V j)) (f' := fun j e => eC e (if j = i then v else V j)) hi (fun j hj => by simp [hj])
  simpa [rowsE] using this
theorem CEI.step {w wr w2 : World} {g cap i : Nat} {l : List Ex} {V0 : Nat → Value} {v : Value} (h : CEI w g cap l V0 i wr) (hg : w.heap.size ≤ g) (hgr : g < wr.heap.size) (hi : i < l.length) (o : Obj) (hb : Below (wr.alloc o).heap.size (wr.alloc o) w2) (hE : ER w2 (Rn (wr.alloc o).heap.size w2.heap.size) l[i].args v) :
    CEI w g cap l V0 (i + 1) (w2.setCell ⟨g, i * 5 + 4, none⟩ v) := by
  obtain ⟨V, h1, h2, h3, h4⟩ := h
  have hs : wr.heap.size < (wr.alloc o).heap.size := by simp
  have hs2 := hb.size
  have hb2 : Below wr.heap.size wr w2 := after (bal wr o) hb
  have hz : (w2.setCell ⟨g, i * 5 + 4, none⟩ v).heap.size = w2.heap.size := by simp [World.setCell]
  have hcell : ∀ b k, b ≠ g → (w2.setCell ⟨g, i * 5 + 4, none⟩ v).cell? ⟨b, k, none⟩ = w2.cell? ⟨b, k, none⟩ := fun b k hb => World.cell?_of_block (w := w2) (Below.heap_setCell w2 _ v b hb)
  refine ⟨fun j => if j = i then v else V j, ?_, ?_, ?_, ?_⟩
  · rw [rowsE_set hi]
    exact (h1.bel hb2 hgr).set1 (rowsE_get (List.getElem?_eq_getElem hi)) (by omega) v
  · intro j e hj hji
    by_cases hjj : j = i
    · subst hjj
      rw [List.getElem?_eq_getElem hi] at hj
      cases hj
      simp only [if_true]
      refine hE.keep (fun b hb => ⟨by have := hb.1; omega, by rw [hz]; exact hb.2, by have := hb.1; omega⟩) fun b k hb => hcell b k (by have := hb.1; omega)
    · simp only [hjj, if_false]
      refine (h2 j e hj (by omega)).keep (fun b hb => ⟨hb.1, by rw [hz]; have := hb.2.1; omega, hb.2.2⟩) fun b k hb => (hcell b k hb.2.2).trans (hb2.cell (p := ⟨b, k, none⟩) hb.2.1)
  · intro j hj
    simp only [show ¬ j = i by omega, if_false]
    exact h3 j (by omega)
  · exact (after h4 hb2).setCell hg v
theorem CEI.done {w wr : World} {g cap : Nat} {l : List Ex} {V0 : Nat → Value} (h : CEI w g cap l V0 l.length wr) (hg : w.heap.size ≤ g) (hl : l.length ≤ 1000) (ho : ∀ (i : Nat) e, l[i]? = some e → OkE e) : Below w.heap.size w wr ∧ ER wr (Rn w.heap.size wr.heap.size) l (.slice (some ⟨g, 0, none⟩) l.length cap) := by
  obtain ⟨V, h1, h2, _, h4⟩ := h
  refine ⟨h4, ER.of_row h1 ⟨hg, h1.lt⟩ (by omega) ho fun i e hi => ?_⟩
  exact (h2 i e hi (List.getElem?_eq_some_iff.1 hi).1).keep (fun b hb => ⟨hb.1, hb.2.1⟩) fun _ _ _ => rfl

set_option maxHeartbeats 1000000 in
theorem cloneExprs_nil (A : Option Addr) (n c : Nat) (w : World) (h : EIn w w.heap.size [] (.slice A n c)) :
    Calls Tryd.prog 108 #[.slice A n c] w (CloneE w []) := by
  obtain ⟨V, _, C⟩ := cloneE_list [] (by simp) A n c w h
  have HC := Lib.hid C
  clear C h
  go_enter Tryd.func108, Tryd.ntmps108
  go_wp2_with fail
  refine HC.out.mono ?_
  rintro e w1 ⟨hb, h⟩
  have HB := Lib.hid hb
  clear hb
  rcases h with ⟨_, A', c', rfl⟩ | ⟨g, cap, rfl, _, _⟩
  · go_wp2_with fail
    refine wp_loop_rounds 1 ?_
    rw [rounds_succ]
    go_wp2_with fail
    go_ret
    exact ⟨_, rfl, HB.out, ER.nil _ _⟩
  · rw [rowsE_len]
    go_wp2_with fail
    refine wp_loop_rounds 1 ?_
    rw [rounds_succ]
    go_wp2_with fail
    go_ret
    exact ⟨_, rfl, HB.out, ER.nil _ _⟩

set_option maxRecDepth 100000 in
set_option maxHeartbeats 4000000 in
theorem cloneExprs_calls (k : Nat) : ∀ (l : List Ex) (v : Value) (w : World), l.length ≤ 1000 → (∀ e ∈ l, dep k e ≠ 0) → EIn w w.heap.size l v →
    Calls Tryd.prog 108 #[v] w (CloneE w l) := by
  induction k with
  | zero =>
    intro l v w _ hd hE
    obtain ⟨A, c, rfl⟩ := hE.slice
    rcases l with _ | ⟨e, l⟩
    · exact cloneExprs_nil A _ c w hE
    · exact absurd rfl (hd e (by simp))
  | succ k ih =>
    intro l v w hl hd hE
    obtain ⟨A, c, rfl⟩ := hE.slice
    rcases Nat.eq_zero_or_pos l.length with h0 | h0
    · obtain rfl := List.eq_nil_of_length_eq_zero h0
      exact cloneExprs_nil A _ c w hE
    · have IH := Lib.hid ih
      obtain ⟨V0, hV0, C⟩ := cloneE_list l hl A _ c w hE
      have HC := Lib.hid C
      have HV := Lib.hid hV0
      have HD := Lib.hid hd
      have hne : rowsE l V0 ≠ [] := fun e => by have := rowsE_len l V0; rw [e] at this; simp at this; omega
      have HNE := Lib.hid hne
      clear ih C hE hV0 hd hne
      go_enter Tryd.func108, Tryd.ntmps108
      go_wp2_with fail
      refine HC.out.mono ?_
      rintro e w1 ⟨hb, h⟩
      rcases h with ⟨h, _⟩ | ⟨g, cap, rfl, hg, hr⟩
      · exact absurd h HNE.out
      have HI := Lib.hid (show CEI w g cap l V0 0 w1 from ⟨V0, hr, fun j e _ h => by omega, fun _ _ => rfl, hb⟩)
      have hgw := hr.lt
      have HG0 := hg
      rw [rowsE_len]
      clear hb hr
      go_wp2_with fail
      go_loopw [9] (fun c wr => ∃ i : Nat, i ≤ l.length ∧ c = .int .i64 i ∧ g < wr.heap.size ∧ CEI w g cap l V0 i wr) (fun c _ => l.length - (intOf c).toNat)
      case atStart => exact ⟨0, by omega, rfl, hgw, HI.out⟩
      case round =>
        obtain ⟨i, hi, rfl, hgr, hinv⟩ := hrel
        have HJ := Lib.hid hinv
        clear hinv hgw
        by_cases hlt : i < l.length
        · have hrow : ∃ V : Nat → Value, RowAt wr g 24 5 cap (rowsE l V) ∧ V i = V0 i ∧ Below w.heap.size w wr := by
            obtain ⟨V, h1, _, h3, h4⟩ := HJ.out
            exact ⟨V, h1, h3 i (Nat.le_refl _), h4⟩
          obtain ⟨V, h1, h3, h4⟩ := hrow
          have hge := rowsE_get (V := V) (List.getElem?_eq_getElem hlt)
          rw [h3] at hge
          have cc := fun (j : Nat) u hj => h1.cell (j := j) (u := u) hge hj
          have c0 := cc 0 _ rfl
          have c1 := cc 1 _ rfl
          have c2 := cc 2 _ rfl
          have c3 := cc 3 _ rfl
          have c4 := cc 4 _ rfl
          rw [Nat.add_zero] at c0
          obtain ⟨hoe, hsub⟩ := HV.out i _ (List.getElem?_eq_getElem hlt)
          obtain ⟨A', c', hs⟩ := hsub.slice
          rw [hs] at c4 hsub
          have HS := Lib.hid (hsub.up h4)
          have HR1 := Lib.hid h1
          have HST := Lib.hid (fun o w2 v hb hE => HJ.out.step (w2 := w2) (v := v) HG0 hgr hlt o hb hE)
          have HDD := Lib.hid (dep_args (HD.out _ (List.getElem_mem hlt)))
          clear cc hge h1 h3 h4 hs hsub
          generalize l[i] = x at *
          go_wp2_with fail
          refine (IH.out x.args _ _ (by have := fitB_args HDD.out.1; omega) HDD.out.2 (HS.out.al _)).mono ?_
          rintro e w2 ⟨v', rfl, hb, hE2⟩
          obtain ⟨A2, c2', rfl⟩ := hE2.slice
          have HN := Lib.hid (HST.out _ _ _ hb hE2)
          have hz2 : wr.heap.size + 1 ≤ w2.heap.size := by have := hb.size; simpa using this
          have R2 := (HR1.out.bel (after (bal wr _) hb) hgr)
          have cW : ∃ u, w2.cell? ⟨g, i * 5 + 4, none⟩ = some u := ⟨_, R2.cell (rowsE_get (List.getElem?_eq_getElem hlt)) (j := 4) rfl⟩
          obtain ⟨u4, cW⟩ := cW
          have fW := R2.free (i * 5 + 4)
          clear hb hE2 R2 c0 c1 c2 c3 c4
          go_wp2_with fail
          go_roundw
          case rel => exact ⟨i + 1, by omega, by go_num, by simp [World.setCell]; omega, HN.out⟩
          case measure => simp [intOf]; omega
        · obtain rfl : i = l.length := by omega
          have HD2 := Lib.hid (HJ.out.done HG0 hl fun i e he => (HV.out i e he).1)
          go_wp2_with fail
          go_ret
          exact ⟨_, rfl, HD2.out.1, HD2.out.2⟩
end Go.Proofs.YthiilnhiihfknaaDoor

namespace Go.Proofs.YthiilnhiihfknaaDoor
open Go Go.RowKit

/-! ### plain laws -/
def numbPre (k : Nat) (l : List St) (n0 : Int) (i : Nat) : List St × Int := (l.take i).foldl (numbS (numbL k)) ([], n0)
def mid (k : Nat) (l : List St) (n0 : Int) (i : Nat) : List St := (numbPre k l n0 i).1 ++ l.drop i
/-- A statement with its number, n, and those of its blocks. -/
def numbSt (k : Nat) (n : Int) (s : St) : St := { s with no := n, body := (numbL k s.body (n + 1)).1, els := (numbL k s.els (numbL k s.body (n + 1)).2).1 }
theorem numbPre_succ {k : Nat} {l : List St} {n0 : Int} {i : Nat} (h : i < l.length) : numbPre k l n0 (i + 1) = ((numbPre k l n0 i).1 ++ [numbSt k (numbPre k l n0 i).2 l[i]], (numbL k l[i].els (numbL k l[i].body ((numbPre k l n0 i).2 + 1)).2).2) := by
  unfold numbPre
  rw [List.take_succ_eq_append_getElem h, List.foldl_append]
  rfl
theorem numbPre_len (k : Nat) (l : List St) (n0 : Int) : ∀ i, i ≤ l.length → (numbPre k l n0 i).1.length = i := by
  intro i
  induction i with
  | zero => intro _; rfl
  | succ i ih => intro h; rw [numbPre_succ (by omega)]; simp [ih (by omega)]
theorem mid_len {k : Nat} {l : List St} {n0 : Int} {i : Nat} (h : i ≤ l.length) : (mid k l n0 i).length = l.length := by
  unfold mid
  rw [List.length_append, numbPre_len k l n0 i h, List.length_drop]
  omega
theorem mid_ge {k : Nat} {l : List St} {n0 : Int} {i j : Nat} (h : i ≤ l.length) (hj : i ≤ j) : (mid k l n0 i)[j]? = l[j]? := by
  unfold mid
  rw [List.getElem?_append_right (by rw [numbPre_len k l n0 i h]; exact hj), numbPre_len k l n0 i h, List.getElem?_drop]
  congr 1
  omega
theorem mid_succ {k : Nat} {l : List St} {n0 : Int} {i : Nat} (h : i < l.length) : mid k l n0 (i + 1) = (mid k l n0 i).set i (numbSt k (numbPre k l n0 i).2 l[i]) := by
  unfold mid
  rw [numbPre_succ h, List.set_append_right _ _ (by rw [numbPre_len k l n0 i (by omega)]; omega), numbPre_len k l n0 i (by omega), Nat.sub_self, List.drop_eq_getElem_cons h]
  simp only [List.append_assoc, List.set_cons_zero, List.singleton_append]
theorem mid_done (k : Nat) (l : List St) (n0 : Int) : mid k l n0 l.length = (numbL (k + 1) l n0).1 := by
  unfold mid numbPre
  rw [List.take_length, List.drop_length, List.append_nil, numbL]
theorem mid_zero (k : Nat) (l : List St) (n0 : Int) : mid k l n0 0 = l := by simp [mid, numbPre]
theorem numb_vis (F : Nat → St → Bool) (k : Nat) : ∀ (l : List St) (n0 m : Nat), vis F k l n0 = some m → (numbL k l n0).2 = m := by
  induction k with
  | zero =>
    intro l n0 m h
    unfold vis at h
    split at h
    · simp at h; simp [numbL, h]
    · cases h
  | succ k ih =>
    intro l n0 m h
    rw [vis_succ] at h
    rw [numbL]
    have key : ∀ (l : List St) (acc : List St) (n0 m : Nat), l.foldlM (visS F k) n0 = some m → (l.foldl (numbS (numbL k)) (acc, (n0 : Int))).2 = m := by
      intro l
      induction l with
      | nil => intro acc n0 m h; simp at h; simp [h]
      | cons s l ihl =>
        intro acc n0 m h
        rw [List.foldlM_cons] at h
        unfold visS at h
        split at h
        · simp at h
        · simp only [Option.bind_eq_bind] at h
          rw [Option.bind_assoc, Option.bind_eq_some_iff] at h
          obtain ⟨a, ha, h⟩ := h
          rw [Option.bind_eq_some_iff] at h
          obtain ⟨b, hb, h⟩ := h
          rw [List.foldl_cons]
          have e1 := ih _ _ _ ha
          have e2 := ih _ _ _ hb
          have : numbS (numbL k) (acc, (n0 : Int)) s = (acc ++ [numbSt k n0 s], (b : Int)) := by
            simp only [numbS, numbSt]
            rw [show ((n0 : Int) + 1) = ((n0 + 1 : Nat) : Int) by omega, e1, e2]
          rw [this]
          exact ihl _ _ _ h
    exact key l [] n0 m h
theorem pre_vis (F : Nat → St → Bool) (k : Nat) (l : List St) (i : Nat) (n0 n : Nat) (h : (l.take i).foldlM (visS F k) n0 = some n) : (numbPre k l n0 i).2 = n := by
  have := numb_vis F (k + 1) (l.take i) n0 n (by rw [vis_succ]; exact h)
  rw [numbL] at this
  exact this
theorem vis_len (F : Nat → St → Bool) (k : Nat) : ∀ (l : List St) (n0 m : Nat), vis F k l n0 = some m → n0 ≤ 200 → l.length ≤ m - n0 := by
  cases k with
  | zero =>
    intro l n0 m h _
    unfold vis at h
    split at h
    · rename_i h1; subst h1; simp
    · cases h
  | succ k =>
    intro l
    induction l with
    | nil => intro n0 m _ _; simp
    | cons s l ih =>
      intro n0 m h h0
      rw [vis_succ, List.foldlM_cons] at h
      unfold visS at h
      split at h
      · simp at h
      · rename_i hc
        simp only [Option.bind_eq_bind] at h
        rw [Option.bind_assoc, Option.bind_eq_some_iff] at h
        obtain ⟨a, ha, h⟩ := h
        rw [Option.bind_eq_some_iff] at h
        obtain ⟨b, hb, h⟩ := h
        have i1 := vis_bounds F k _ _ _ ha (by omega)
        have i2 := vis_bounds F k _ _ _ hb (by omega)
        have i3 := ih b m (by rw [vis_succ]; exact h) (by omega)
        have i4 := vis_bounds F (k + 1) l b m (by rw [vis_succ]; exact h) (by omega)
        simp only [List.length_cons]
        omega
/-- What follows of a visit that goes through: at each statement. -/
theorem vis_at {F : Nat → St → Bool} {k : Nat} {l : List St} {n0 m : Nat} (h : vis F (k + 1) l n0 = some m) (h0 : n0 ≤ 200) {i n : Nat} (hi : i < l.length) (hf : (l.take i).foldlM (visS F k) n0 = some n) :
    ∃ a b, n < 200 ∧ F n l[i] = true ∧ vis F k l[i].body (n + 1) = some a ∧ vis F k l[i].els a = some b ∧ (l.take (i + 1)).foldlM (visS F k) n0 = some b ∧ a ≤ 200 ∧ b ≤ 200 := by
  have hn := vis_bounds F (k + 1) (l.take i) n0 n (by rw [vis_succ]; exact hf) h0
  have hs := fold_snoc (F := F) (k := k) (n0 := n0) hi
  rw [hf, Option.bind_some] at hs
  cases hv : visS F k n l[i] with
  | none => rw [fold_none hi hf hv] at h; cases h
  | some b =>
    rw [hv] at hs
    unfold visS at hv
    split at hv
    · cases hv
    · rename_i hc
      rw [Option.bind_eq_some_iff] at hv
      obtain ⟨a, ha, hb⟩ := hv
      have i1 := vis_bounds F k _ _ _ ha (by omega)
      have i2 := vis_bounds F k _ _ _ hb (by omega)
      exact ⟨a, b, by omega, by simpa using fun hh => hc (.inr hh), ha, hb, hs, by omega, by omega⟩
theorem headB_args {s : St} (h : headB s = true) : s.args.length ≤ 8 ∧ ∀ e ∈ s.args, dep 20 e ≠ 0 := by
  unfold headB at h
  cases hr : stRow s.kind with
  | none => rw [hr] at h; cases h
  | some r =>
    rw [hr] at h
    simp only [rowHead, Bool.and_eq_true, decide_eq_true_eq] at h
    have h2 : r.most ≤ 8 := by
      unfold stRow at hr
      repeat' (split at hr)
      all_goals first | (cases hr; simp) | cases hr
    refine ⟨by omega, fun e he => ?_⟩
    have := h.1.1.2
    unfold exsB at this
    rw [List.all_eq_true] at this
    simpa [exB] using this e he

/-! ### boxes as rows -/
abbrev BX (w : World) (b : Nat) (s : St) (va vb ve : Value) : Prop := RowAt w b 46 8 1 [sC s va vb ve]
section
variable {w w' : World} {b N S : Nat} {s : St} {va vb ve : Value}
theorem BX.new (w : World) (s : St) (va vb ve : Value) : BX (w.alloc (sO s va vb ve)) w.heap.size s va vb ve := by
  refine ⟨_, heap_alloc_new w _, rfl, Nat.le_refl _, fun r hr => ?_, fun i r j u hi hj => ?_⟩
  · simp only [List.mem_cons, List.not_mem_nil, or_false] at hr; subst hr; rfl
  · match i, hi with
    | 0, hi =>
      cases hi
      rw [Nat.zero_mul, Nat.zero_add, List.getElem?_toArray]
      exact hj
    | i + 1, hi => simp at hi
theorem BX.at_ (h : BX w b s va vb ve) : SBox w b s va vb ve := by
  have c := fun (j : Nat) u hj => RowAt.cell h (i := 0) (j := j) (u := u) (r := sC s va vb ve) rfl hj
  have c0 := c 0 _ rfl
  have c1 := c 1 _ rfl
  have c2 := c 2 _ rfl
  have c3 := c 3 _ rfl
  have c4 := c 4 _ rfl
  have c5 := c 5 _ rfl
  have c6 := c 6 _ rfl
  have c7 := c 7 _ rfl
  exact ⟨c0, c1, c2, c3, c4, c5, c6, c7⟩
theorem BX.set5 (h : BX w b s va vb ve) (u : Value) : BX (w.setCell ⟨b, 5, none⟩ u) b s u vb ve := RowAt.set1 h (i := 0) (j := 5) (r := sC s va vb ve) rfl (by omega) u
theorem BX.set6 (h : BX w b s va vb ve) (u : Value) : BX (w.setCell ⟨b, 6, none⟩ u) b s va u ve := RowAt.set1 h (i := 0) (j := 6) (r := sC s va vb ve) rfl (by omega) u
theorem BX.set7 (h : BX w b s va vb ve) (u : Value) : BX (w.setCell ⟨b, 7, none⟩ u) b s va vb u := RowAt.set1 h (i := 0) (j := 7) (r := sC s va vb ve) rfl (by omega) u
end
theorem Fr.setNew {N S : Nat} {w a : World} (h : Fr N S w a) {p : Addr} (hp : w.heap.size ≤ p.block) (u : Value) : Fr N S w (a.setCell p u) :=
  ⟨h.os, h.tape, h.output, by simpa [World.setCell] using h.size, fun i hi h1 h2 => (Below.heap_setCell a p u i (by omega)).trans (h.block i hi h1 h2)⟩
theorem size_set (w : World) (p : Addr) (u : Value) : (w.setCell p u).heap.size = w.heap.size := by simp [World.setCell]

/-! ### what has been done after i rounds -/
structure New (w : World) (R : Nat → Prop) (s : St) (va vb ve : Value) : Prop where
  ok : OkS s
  a : ER w R s.args va
  b : SR w R s.body vb
  e : SR w R s.els ve
theorem New.keep {w w' : World} {R R' : Nat → Prop} {s : St} {va vb ve : Value} (h : New w R s va vb ve) (hR : ∀ b, R b → R' b) (hk : ∀ b i, R b → w'.cell? ⟨b, i, none⟩ = w.cell? ⟨b, i, none⟩) : New w' R' s va vb ve :=
  ⟨h.ok, h.a.keep hR hk, h.b.keep hR hk, h.e.keep hR hk⟩
theorem rowsS_set {l : List St} {V : Nat → Value × Value × Value} {i : Nat} (s : St) (va vb ve : Value) (hi : i < l.length) : rowsS (l.set i s) (fun j => if j = i then (va, vb, ve) else V j) = (rowsS l V).set i (sC s va vb ve) := by
  apply List.ext_getElem?
  intro j
  by_cases hj : j = i
  · subst hj
    rw [List.getElem?_set_self (by rw [rowsS_len]; exact hi)]
    rw [rowsS_get (List.getElem?_set_self hi)]
    simp
  · rw [List.getElem?_set_ne (by omega)]
    simp only [rowsS, List.getElem?_mapIdx, List.getElem?_set_ne (Ne.symm hj), hj, if_false]
abbrev store8 (w : World) (g i : Nat) (s : St) (va vb ve : Value) : World :=
  ((((((((w.setCell ⟨g, i * 8, none⟩ (.int .i64 s.kind)).setCell ⟨g, i * 8 + 1, none⟩ (.int .i64 s.no)).setCell ⟨g, i * 8 + 2, none⟩ (.string (B s.name))).setCell ⟨g, i * 8 + 3, none⟩ (.int .i64 s.typ)).setCell ⟨g, i * 8 + 4, none⟩ (.string (B s.callee))).setCell ⟨g, i * 8 + 5, none⟩ va).setCell ⟨g, i * 8 + 6, none⟩ vb).setCell ⟨g, i * 8 + 7, none⟩ ve)
theorem store8_size (w : World) (g i : Nat) (s : St) (va vb ve : Value) : (store8 w g i s va vb ve).heap.size = w.heap.size := by simp only [store8, size_set]
theorem store8_cell (w : World) (g i : Nat) (s : St) (va vb ve : Value) {b : Nat} (hb : b ≠ g) (k : Nat) : (store8 w g i s va vb ve).cell? ⟨b, k, none⟩ = w.cell? ⟨b, k, none⟩ := by
  apply World.cell?_of_block
  simp only [store8]
  rw [Below.heap_setCell _ _ _ b hb, Below.heap_setCell _ _ _ b hb, Below.heap_setCell _ _ _ b hb, Below.heap_setCell _ _ _ b hb, Below.heap_setCell _ _ _ b hb, Below.heap_setCell _ _ _ b hb, Below.heap_setCell _ _ _ b hb, Below.heap_setCell _ _ _ b hb]
theorem store8_heap (w : World) (g i : Nat) (s : St) (va vb ve : Value) {b : Nat} (hb : b ≠ g) : (store8 w g i s va vb ve).heap[b]? = w.heap[b]? := by
  simp only [store8]
  rw [Below.heap_setCell _ _ _ b hb, Below.heap_setCell _ _ _ b hb, Below.heap_setCell _ _ _ b hb, Below.heap_setCell _ _ _ b hb, Below.heap_setCell _ _ _ b hb, Below.heap_setCell _ _ _ b hb, Below.heap_setCell _ _ _ b hb, Below.heap_setCell _ _ _ b hb]
theorem store8_fr {w a : World} {N S : Nat} (h : Fr N S w a) {g : Nat} (hg : w.heap.size ≤ g) (i : Nat) (s : St) (va vb ve : Value) : Fr N S w (store8 a g i s va vb ve) :=
  (((((((h.setNew (p := ⟨g, _, none⟩) hg _).setNew (p := ⟨g, _, none⟩) hg _).setNew (p := ⟨g, _, none⟩) hg _).setNew (p := ⟨g, _, none⟩) hg _).setNew (p := ⟨g, _, none⟩) hg _).setNew (p := ⟨g, _, none⟩) hg _).setNew (p := ⟨g, _, none⟩) hg _).setNew (p := ⟨g, _, none⟩) hg _
end Go.Proofs.YthiilnhiihfknaaDoor

namespace Go.Proofs.YthiilnhiihfknaaDoor
open Go Go.RowKit

theorem IvOk.up {lo hi hi' g n : Nat} {I : Nat → Iv} (h : IvOk lo hi g n I) (h1 : hi ≤ hi') : IvOk lo hi' g n I := ⟨fun i hi => by have := h.each i hi; omega, h.ord⟩
theorem CX.step {w wr w2 : World} {l : List St} {g cap i : Nat} {V0 V : Nat → Value × Value × Value} {I : Nat → Iv} {s : St} {va vb ve : Value} {J : Iv} (h : CX w wr l g cap i V0 V I) (hi : l[i]? = some s) (hc : ClS wr w2 s va vb ve J) :
    CX w (store8 w2 g i s va vb ve) l g cap (i + 1) V0 (fun j => if j = i then (va, vb, ve) else V j) (fun j => if j = i then J else I j) := by
  have hil := (List.getElem?_eq_some_iff.1 hi).1
  have hz := hc.bel.size
  have hg2 := h.g2
  have hl1 := hc.lo
  have hl2 := hc.ab
  have hl3 := hc.be
  have hl4 := hc.ez
  have hl5 := hc.hi
  have hkeep : ∀ b, b ≠ g → b < wr.heap.size → (store8 w2 g i s va vb ve).heap[b]? = wr.heap[b]? := fun b h1 h2 => (store8_heap _ _ _ _ _ _ _ h1).trans (hc.bel.block b h2)
  refine ⟨h.g1, by rw [store8_size]; omega, ?_, ⟨fun j hj => ?_, fun j k hjk hk => ?_⟩, fun j t ht hj => ?_, fun j t ht hj => ?_, fun j t ht hj => ?_, fun j hj => ?_, ?_⟩
  · have e := rowsS_set (V := V) s va vb ve hil
    rw [show l.set i s = l by obtain ⟨h', rfl⟩ := List.getElem?_eq_some_iff.1 hi; exact List.set_getElem_self _] at e
    rw [e]
    exact (h.row.bel hc.bel h.g2).set8 (rowsS_get hi) _ _ _ _ _ _ _ _
  · rw [store8_size]
    by_cases hji : j = i
    · subst hji
      simp only [if_true]
      have := h.g1
      have := h.bel.size
      omega
    · simp only [hji, if_false]
      have := h.iv.each j (by omega)
      omega
  · by_cases hki : k = i
    · subst hki
      simp only [if_true, show ¬ j = k by omega, if_false]
      have := h.iv.each j (by omega)
      omega
    · simp only [hki, if_false, show ¬ j = i by omega, if_false]
      exact h.iv.ord j k hjk (by omega)
  · by_cases hji : j = i
    · subst hji
      rw [hi] at ht
      cases ht
      simp only [if_true]
      exact hc.a.keep (fun _ h => h) fun b q hb => World.cell?_of_block (w := w2) (store8_heap _ _ _ _ _ _ _ (show b ≠ g by have := hb.1; omega))
    · simp only [hji, if_false]
      have := h.iv.each j (by omega)
      exact (h.a j t ht (by omega)).keep (fun _ h => h) fun b q hb => World.cell?_of_block (w := wr) (hkeep b (show b ≠ g by have := hb.1; have := hb.2; omega) (show b < wr.heap.size by have := hb.2; omega))
  · by_cases hji : j = i
    · subst hji
      rw [hi] at ht
      cases ht
      simp only [if_true]
      exact hc.b.keep fun b h1 h2 => store8_heap _ _ _ _ _ _ _ (by omega)
    · simp only [hji, if_false]
      have := h.iv.each j (by omega)
      exact (h.b j t ht (by omega)).keep fun b h1 h2 => hkeep b (by omega) (by omega)
  · by_cases hji : j = i
    · subst hji
      rw [hi] at ht
      cases ht
      simp only [if_true]
      exact hc.e.keep fun b h1 h2 => store8_heap _ _ _ _ _ _ _ (by omega)
    · simp only [hji, if_false]
      have := h.iv.each j (by omega)
      exact (h.e j t ht (by omega)).keep fun b h1 h2 => hkeep b (by omega) (by omega)
  · simp only [show ¬ j = i by omega, if_false]
    exact h.old j (by omega)
  · have hb := after h.bel hc.bel
    have hg := h.g1
    exact ((((((((hb).setCell (p := ⟨g, _, none⟩) hg _).setCell (p := ⟨g, _, none⟩) hg _).setCell (p := ⟨g, _, none⟩) hg _).setCell (p := ⟨g, _, none⟩) hg _).setCell (p := ⟨g, _, none⟩) hg _).setCell (p := ⟨g, _, none⟩) hg _).setCell (p := ⟨g, _, none⟩) hg _).setCell (p := ⟨g, _, none⟩) hg _
theorem CX.done {w wr : World} {l : List St} {g cap : Nat} {V0 V : Nat → Value × Value × Value} {I : Nat → Iv} (h : CX w wr l g cap l.length V0 V I) (ho : ∀ (i : Nat) s, l[i]? = some s → OkS s) : OX wr w.heap.size wr.heap.size l g cap V I :=
  ⟨h.g1, h.g2, h.row, h.iv, ho, fun i s hi => h.a i s hi (List.getElem?_eq_some_iff.1 hi).1, fun i s hi => h.b i s hi (List.getElem?_eq_some_iff.1 hi).1, fun i s hi => h.e i s hi (List.getElem?_eq_some_iff.1 hi).1⟩

/-! ### clone.Stmt, clone.stmts -/
section
variable {w : World} {b : Nat} {s : St} {va vb ve : Value}
theorem BX.put (h : BX w b s va vb ve) (t : St) (ua ub ue : Value) :
    BX ((((((((w.setCell ⟨b, 0, none⟩ (.int .i64 t.kind)).setCell ⟨b, 1, none⟩ (.int .i64 t.no)).setCell ⟨b, 2, none⟩ (.string (B t.name))).setCell ⟨b, 3, none⟩ (.int .i64 t.typ)).setCell ⟨b, 4, none⟩ (.string (B t.callee))).setCell ⟨b, 5, none⟩ ua).setCell ⟨b, 6, none⟩ ub).setCell ⟨b, 7, none⟩ ue) b t ua ub ue := by
  have := RowAt.set8 h (i := 0) (r := sC s va vb ve) rfl (.int .i64 t.kind) (.int .i64 t.no) (.string (B t.name)) (.int .i64 t.typ) (.string (B t.callee)) ua ub ue
  simp only [Nat.zero_mul, Nat.zero_add] at this
  exact this
end
def CloneSS (w : World) (l : List St) (e : Ending) (w' : World) : Prop := ∃ v, e = .returned v ∧ Below w.heap.size w w' ∧ OS w' w.heap.size w'.heap.size l v
def CloneSt (w : World) (s : St) (e : Ending) (w' : World) : Prop := ∃ va vb ve J, e = .returned (sV s va vb ve) ∧ ClS w w' s va vb ve J
/-- stmts, of lists that are visited with depth k. -/
def StmtsC (k : Nat) : Prop := ∀ (l : List St) (v : Value) (n0 m : Nat) (w : World), n0 ≤ 200 → SIn w w.heap.size l v → vis FA k l n0 = some m → Calls Tryd.prog 97 #[v] w (CloneSS w l)
abbrev zSt : St := ⟨0, 0, [], 0, [], [], [], []⟩
abbrev nilV : Value := .slice none 0 0
theorem set_ne (w : World) {b c i : Nat} (u : Value) (h : b ≠ c) : (w.setCell ⟨c, i, none⟩ u).heap[b]? = w.heap[b]? := Below.heap_setCell w _ u b h

set_option maxRecDepth 100000 in
set_option maxHeartbeats 4000000 in
theorem cloneStmt_of (k : Nat) (H : StmtsC k) (s : St) (hh : headB s = true) (n a b : Nat) (hn : n ≤ 200) (hva : vis FA k s.body n = some a) (hvb : vis FA k s.els a = some b) (va vb ve : Value) (w : World)
    (hA : EIn w w.heap.size s.args va) (hB : SIn w w.heap.size s.body vb) (hE : SIn w w.heap.size s.els ve) :
    Calls Tryd.prog 105 #[sV s va vb ve] w (CloneSt w s) := by
  obtain ⟨Aa, ca, rfl⟩ := hA.slice
  obtain ⟨Ab, cb, rfl⟩ := hB.slice
  obtain ⟨Ae, ce, rfl⟩ := hE.slice
  have ha2 := (vis_bounds FA k _ _ _ hva hn).2
  have HBw := Lib.hid hB
  have HEw := Lib.hid hE
  have HH := Lib.hid H
  have HHB := Lib.hid (headB_args hh)
  have HVA := Lib.hid hva
  have HVB := Lib.hid hvb
  have b2 := bal2 w (sO s (.slice Aa s.args.length ca) (.slice Ab s.body.length cb) (.slice Ae s.els.length ce)) (sO zSt nilV nilV nilV)
  have HA := Lib.hid (hA.up b2)
  have hz2 : ((w.alloc (sO s (.slice Aa s.args.length ca) (.slice Ab s.body.length cb) (.slice Ae s.els.length ce))).alloc (sO zSt nilV nilV nilV)).heap.size = w.heap.size + 2 := by simp
  have HX := Lib.hid ((BX.new w s (.slice Aa s.args.length ca) (.slice Ab s.body.length cb) (.slice Ae s.els.length ce)).bel (bal (w.alloc (sO s (.slice Aa s.args.length ca) (.slice Ab s.body.length cb) (.slice Ae s.els.length ce))) (sO zSt nilV nilV nilV)) (by simp))
  have HR := Lib.hid (show BX ((w.alloc (sO s (.slice Aa s.args.length ca) (.slice Ab s.body.length cb) (.slice Ae s.els.length ce))).alloc (sO zSt nilV nilV nilV)) (w.heap.size + 1) zSt nilV nilV nilV by
    have := BX.new (w.alloc (sO s (.slice Aa s.args.length ca) (.slice Ab s.body.length cb) (.slice Ae s.els.length ce))) zSt nilV nilV nilV
    rwa [sz1] at this)
  have HB2 := Lib.hid b2
  clear H hh hva hvb hA hB hE b2
  go_enter Tryd.func105, Tryd.ntmps105
  go_wp2_with fail
  refine (cloneExprs_calls 20 s.args _ _ (by have := HHB.out.1; omega) HHB.out.2 HA.out).mono ?_
  rintro e w3 ⟨v5, rfl, hb3, hE5⟩
  obtain ⟨A5, c5, rfl⟩ := hE5.slice
  have hz3 : w.heap.size + 2 ≤ w3.heap.size := by have := hb3.size; rw [hz2] at this; exact this
  have X3 := HX.out.bel hb3 (by rw [hz2]; omega)
  have R3 := HR.out.bel hb3 (by rw [hz2]; omega)
  have HX3 := Lib.hid (BX.set5 X3 (.slice A5 s.args.length c5))
  have HR3 := Lib.hid (R3.keep (w' := w3.setCell ⟨w.heap.size, 5, none⟩ (.slice A5 s.args.length c5)) (set_ne w3 _ (by omega)))
  have q5 := (BX.at_ X3).c5
  have f5 := X3.free 5
  have q6 := (BX.at_ (BX.set5 X3 (.slice A5 s.args.length c5))).c6
  have hl3 : Below w.heap.size w (w3.setCell ⟨w.heap.size, 5, none⟩ (.slice A5 s.args.length c5)) := (HB2.out.trans (hb3.mono (by rw [hz2]; omega))).setCell (Nat.le_refl _) _
  have HL3 := Lib.hid hl3
  have HE5 := Lib.hid hE5
  rw [hz2] at HE5
  have HB3 := Lib.hid ((HBw.out.bel hl3).keep (M' := (w3.setCell ⟨w.heap.size, 5, none⟩ (.slice A5 s.args.length c5)).heap.size) (by rw [size_set]; omega) fun _ _ _ => rfl)
  have hzs3 := size_set w3 ⟨w.heap.size, 5, none⟩ (.slice A5 s.args.length c5)
  clear hb3 hE5 X3 R3 hl3 HA HX HR
  go_wp2_with fail
  refine (HH.out s.body _ n a _ hn HB3.out HVA.out).mono ?_
  rintro e w4 ⟨v6, rfl, hb4, hS6⟩
  obtain ⟨A6, c6, rfl⟩ := hS6.slice
  rw [hzs3] at hS6
  have hz4 : w3.heap.size ≤ w4.heap.size := by have := hb4.size; rw [hzs3] at this; exact this
  have X4 := HX3.out.bel hb4 (by rw [hzs3]; omega)
  have R4 := HR3.out.bel hb4 (by rw [hzs3]; omega)
  have HX4 := Lib.hid (BX.set6 X4 (.slice A6 s.body.length c6))
  have HR4 := Lib.hid (R4.keep (w' := w4.setCell ⟨w.heap.size, 6, none⟩ (.slice A6 s.body.length c6)) (set_ne w4 _ (by omega)))
  have q6' := (BX.at_ X4).c6
  have f6 := X4.free 6
  have q7 := (BX.at_ (BX.set6 X4 (.slice A6 s.body.length c6))).c7
  have k34 : ∀ b, b ≠ w.heap.size → b < w3.heap.size → (w4.setCell ⟨w.heap.size, 6, none⟩ (.slice A6 s.body.length c6)).heap[b]? = w3.heap[b]? := fun b h1 h2 => (set_ne w4 _ h1).trans ((hb4.block b (by rw [hzs3]; exact h2)).trans (set_ne w3 _ h1))
  have hl4 : Below w.heap.size w (w4.setCell ⟨w.heap.size, 6, none⟩ (.slice A6 s.body.length c6)) := (HL3.out.trans (hb4.mono (by rw [hzs3]; omega))).setCell (Nat.le_refl _) _
  have HL4 := Lib.hid hl4
  have HE4 := Lib.hid ((HEw.out.bel hl4).keep (M' := (w4.setCell ⟨w.heap.size, 6, none⟩ (.slice A6 s.body.length c6)).heap.size) (by rw [size_set]; omega) fun _ _ _ => rfl)
  have hzs4 := size_set w4 ⟨w.heap.size, 6, none⟩ (.slice A6 s.body.length c6)
  have HS6 := Lib.hid hS6
  have HK34 := Lib.hid k34
  clear hb4 hS6 X4 R4 hl4 HX3 HR3 q5 f5 q6 k34
  go_wp2_with fail
  refine (HH.out s.els _ a b _ ha2 HE4.out HVB.out).mono ?_
  rintro e w5 ⟨v7, rfl, hb5, hS7⟩
  obtain ⟨A7, c7, rfl⟩ := hS7.slice
  rw [hzs4] at hS7
  have hz5 : w4.heap.size ≤ w5.heap.size := by have := hb5.size; rw [hzs4] at this; exact this
  have X5 := HX4.out.bel hb5 (by rw [hzs4]; omega)
  have R5 := HR4.out.bel hb5 (by rw [hzs4]; omega)
  have X6 := BX.set7 X5 (.slice A7 s.els.length c7)
  have R6 := R5.keep (w' := w5.setCell ⟨w.heap.size, 7, none⟩ (.slice A7 s.els.length c7)) (set_ne w5 _ (by omega))
  have q7' := (BX.at_ X5).c7
  have f7 := X5.free 7
  obtain ⟨x0, x1, x2, x3, x4, x5, x6, x7⟩ := BX.at_ X6
  obtain ⟨y0, y1, y2, y3, y4, y5, y6, y7⟩ := BX.at_ R6
  have fy := R6.free
  obtain ⟨t0, t1, t2, t3, t4, t5, t6, t7⟩ := BX.at_ (BX.put R6 s (.slice A5 s.args.length c5) (.slice A6 s.body.length c6) (.slice A7 s.els.length c7))
  have k45 : ∀ b, b ≠ w.heap.size → b < w4.heap.size → (w5.setCell ⟨w.heap.size, 7, none⟩ (.slice A7 s.els.length c7)).heap[b]? = w4.heap[b]? := fun b h1 h2 => (set_ne w5 _ h1).trans ((hb5.block b (by rw [hzs4]; exact h2)).trans (set_ne w4 _ h1))
  have k35 : ∀ b, b ≠ w.heap.size → b < w3.heap.size → (w5.setCell ⟨w.heap.size, 7, none⟩ (.slice A7 s.els.length c7)).heap[b]? = w3.heap[b]? := fun b h1 h2 => (k45 b h1 (by omega)).trans ((set_ne w4 (i := 6) (.slice A6 s.body.length c6) h1).symm.trans (HK34.out b h1 h2))
  have k55 : ∀ b, b ≠ w.heap.size → (w5.setCell ⟨w.heap.size, 7, none⟩ (.slice A7 s.els.length c7)).heap[b]? = w5.heap[b]? := fun b h1 => set_ne w5 _ h1
  have hl5 : Below w.heap.size w (w5.setCell ⟨w.heap.size, 7, none⟩ (.slice A7 s.els.length c7)) := (HL4.out.trans (hb5.mono (by rw [hzs4]; omega))).setCell (Nat.le_refl _) _
  have hzs5 := size_set w5 ⟨w.heap.size, 7, none⟩ (.slice A7 s.els.length c7)
  have HL5 := Lib.hid hl5
  have HS7 := Lib.hid hS7
  have HK35 := Lib.hid k35
  have HK45 := Lib.hid k45
  have HK55 := Lib.hid k55
  clear hb5 hS7 X5 R5 X6 R6 hl5 HX4 HR4 q6' f6 q7 k45 k35 k55 HK34 HB3 HE4 HBw HEw
  go_wp2_with fail
  generalize w5.setCell ⟨w.heap.size, 7, none⟩ (.slice A7 s.els.length c7) = w6 at *
  have kw : ∀ b, b ≠ w.heap.size + 1 → ((((((((w6.setCell ⟨w.heap.size + 1, 0, none⟩ (.int .i64 s.kind)).setCell ⟨w.heap.size + 1, 1, none⟩ (.int .i64 s.no)).setCell ⟨w.heap.size + 1, 2, none⟩ (.string (B s.name))).setCell ⟨w.heap.size + 1, 3, none⟩ (.int .i64 s.typ)).setCell ⟨w.heap.size + 1, 4, none⟩ (.string (B s.callee))).setCell ⟨w.heap.size + 1, 5, none⟩ (.slice A5 s.args.length c5)).setCell ⟨w.heap.size + 1, 6, none⟩ (.slice A6 s.body.length c6)).setCell ⟨w.heap.size + 1, 7, none⟩ (.slice A7 s.els.length c7)).heap[b]? = w6.heap[b]? := by
    intro b hb
    rw [set_ne _ _ hb, set_ne _ _ hb, set_ne _ _ hb, set_ne _ _ hb, set_ne _ _ hb, set_ne _ _ hb, set_ne _ _ hb, set_ne _ _ hb]
  refine bodyPost_ret (v := sV s (.slice A5 s.args.length c5) (.slice A6 s.body.length c6) (.slice A7 s.els.length c7)) (by simp [results, Tryd.results105, go_sem, t0, t1, t2, t3, t4, t5, t6, t7]) rfl
    ⟨_, _, _, ⟨w.heap.size + 2, w3.heap.size, w4.heap.size, w5.heap.size⟩, rfl, by show w.heap.size ≤ w.heap.size + 2; omega, hz3, hz4, hz5, by simp only [size_set]; omega, ?_, ?_, ?_, ?_⟩
  · exact HE5.out.keep (fun _ h => h) fun b q hb => World.cell?_of_block (w := w3) ((kw b (show b ≠ w.heap.size + 1 by have := hb.1; omega)).trans (HK35.out b (show b ≠ w.heap.size by have := hb.1; omega) hb.2))
  · exact HS6.out.keep fun b h1 h2 => (kw b (by omega)).trans (HK45.out b (by omega) h2)
  · exact HS7.out.keep fun b h1 h2 => (kw b (by omega)).trans (HK55.out b (by omega))
  · have g1 : w.heap.size ≤ w.heap.size + 1 := Nat.le_succ _
    exact (((((((HL5.out.setCell (p := ⟨w.heap.size + 1, 0, none⟩) g1 _).setCell (p := ⟨w.heap.size + 1, 1, none⟩) g1 _).setCell (p := ⟨w.heap.size + 1, 2, none⟩) g1 _).setCell (p := ⟨w.heap.size + 1, 3, none⟩) g1 _).setCell (p := ⟨w.heap.size + 1, 4, none⟩) g1 _).setCell (p := ⟨w.heap.size + 1, 5, none⟩) g1 _).setCell (p := ⟨w.heap.size + 1, 6, none⟩) g1 _).setCell (p := ⟨w.heap.size + 1, 7, none⟩) g1 _

set_option maxHeartbeats 1000000 in
theorem cloneStmts_nil (A : Option Addr) (n c : Nat) (w : World) (h : SIn w w.heap.size [] (.slice A n c)) :
    Calls Tryd.prog 97 #[.slice A n c] w (CloneSS w []) := by
  obtain ⟨V, _, C⟩ := cloneS_list [] (by simp) A n c w.heap.size w (Nat.le_refl _) h
  have HC := Lib.hid C
  clear C h
  go_enter Tryd.func97, Tryd.ntmps97
  go_wp2_with fail
  refine HC.out.mono ?_
  rintro e w1 ⟨hb, h⟩
  have HB := Lib.hid hb
  clear hb
  rcases h with ⟨_, A', c', rfl⟩ | ⟨g, cap, rfl, _, _⟩
  · go_wp2_with fail
    refine wp_loop_rounds 1 ?_
    rw [rounds_succ]
    go_wp2_with fail
    go_ret
    exact ⟨_, rfl, HB.out, OS.nil _ _ _ _⟩
  · rw [rowsS_len]
    go_wp2_with fail
    refine wp_loop_rounds 1 ?_
    rw [rounds_succ]
    go_wp2_with fail
    go_ret
    exact ⟨_, rfl, HB.out, OS.nil _ _ _ _⟩
def CXi (w wr : World) (l : List St) (g cap i : Nat) (V0 : Nat → Value × Value × Value) : Prop := ∃ V I, CX w wr l g cap i V0 V I
theorem ClS.low {w w' : World} {o : Obj} {s : St} {va vb ve : Value} {J : Iv} (h : ClS (w.alloc o) w' s va vb ve J) : ClS w w' s va vb ve J :=
  ⟨by have := h.lo; rw [sz1] at this; omega, h.ab, h.be, h.ez, h.hi, h.a, h.b, h.e, after (bal w o) h.bel⟩
set_option maxRecDepth 100000 in
set_option maxHeartbeats 4000000 in
theorem cloneStmts_calls (k : Nat) : StmtsC k := by
  induction k with
  | zero =>
    intro l v n0 m w h0 hl hv
    obtain ⟨A, c, rfl⟩ := hl.slice
    obtain rfl : l = [] := by unfold vis at hv; split at hv; assumption; cases hv
    exact cloneStmts_nil A _ c w hl
  | succ k ih =>
    intro l v n0 m w h0 hl hv
    obtain ⟨A, c, rfl⟩ := hl.slice
    have hlen := vis_len FA (k + 1) l n0 m hv h0
    have hm2 := (vis_bounds FA (k + 1) l n0 m hv h0).2
    rcases Nat.eq_zero_or_pos l.length with hl0 | hl0
    · obtain rfl := List.eq_nil_of_length_eq_zero hl0
      exact cloneStmts_nil A _ c w hl
    obtain ⟨V0, hV0, C⟩ := cloneS_list l (by omega) A _ c w.heap.size w (Nat.le_refl _) hl
    have IH := Lib.hid ih
    have HC := Lib.hid C
    have HV := Lib.hid hV0
    have HVS := Lib.hid (fun i n hi hf => vis_at (i := i) (n := n) hv h0 hi hf)
    have HNE := Lib.hid (show rowsS l V0 ≠ [] from fun e => by have := rowsS_len l V0; rw [e] at this; simp at this; omega)
    have hl1000 : l.length ≤ 1000 := by omega
    clear ih C hl hV0 hv hlen hm2
    go_enter Tryd.func97, Tryd.ntmps97
    go_wp2_with fail
    refine HC.out.mono ?_
    rintro e w1 ⟨hb, h⟩
    rcases h with ⟨h, _⟩ | ⟨g, cap, rfl, hg, hr⟩
    · exact absurd h HNE.out
    have HI := Lib.hid (show CXi w w1 l g cap 0 V0 from ⟨V0, fun _ => ⟨0, 0, 0, 0⟩, hg, hr.lt, hr, ⟨fun i hi => absurd hi (Nat.not_lt_zero i), fun i j _ hj => absurd hj (Nat.not_lt_zero j)⟩, fun j s _ hj => absurd hj (Nat.not_lt_zero j), fun j s _ hj => absurd hj (Nat.not_lt_zero j), fun j s _ hj => absurd hj (Nat.not_lt_zero j), fun _ _ => rfl, hb⟩)
    rw [rowsS_len]
    have hgw := hr.lt
    clear hb hr hg
    go_wp2_with fail
    go_loopw [9] (fun c wr => ∃ (i n : Nat), i ≤ l.length ∧ c = .int .i64 i ∧ n ≤ 200 ∧ g < wr.heap.size ∧ Hid ((l.take i).foldlM (visS FA k) n0 = some n) ∧ Hid (CXi w wr l g cap i V0)) (fun c _ => l.length - (intOf c).toNat)
    case atStart => exact ⟨0, n0, by omega, rfl, h0, hgw, Lib.hid rfl, HI⟩
    case round =>
      obtain ⟨i, n, hi, rfl, hn, hgr, HFO, HJ⟩ := hrel
      clear HI
      by_cases hlt : i < l.length
      · obtain ⟨V, I, hX⟩ := HJ.out
        have hge := rowsS_get (V := V) (List.getElem?_eq_getElem hlt)
        rw [hX.old i (Nat.le_refl _)] at hge
        have cc := fun (j : Nat) u hj => hX.row.cell (j := j) (u := u) hge hj
        have c0 := cc 0 _ rfl
        have c1 := cc 1 _ rfl
        have c2 := cc 2 _ rfl
        have c3 := cc 3 _ rfl
        have c4 := cc 4 _ rfl
        have c5 := cc 5 _ rfl
        have c6 := cc 6 _ rfl
        have c7 := cc 7 _ rfl
        rw [Nat.add_zero] at c0
        obtain ⟨hos, ha, hb, he⟩ := HV.out i _ (List.getElem?_eq_getElem hlt)
        obtain ⟨Aa, ca, hsa⟩ := ha.slice
        obtain ⟨Ab, cb, hsb⟩ := hb.slice
        obtain ⟨Ae, ce, hse⟩ := he.slice
        rw [hsa] at c5 ha
        rw [hsb] at c6 hb
        rw [hse] at c7 he
        obtain ⟨a, b, hn200, hFn, hva, hvb, hfn, ha2, hb2⟩ := HVS.out i n hlt HFO.out
        have HX := Lib.hid hX
        have HLI := Lib.hid (List.getElem?_eq_getElem hlt)
        generalize l[i] = s at *
        have HA := Lib.hid (ha.up hX.bel)
        have HB := Lib.hid (hb.up hX.bel)
        have HE := Lib.hid (he.up hX.bel)
        have HCS := Lib.hid (fun W (h : Below wr.heap.size wr W) => cloneStmt_of k IH.out s hFn (n + 1) a b (by omega) hva hvb (.slice Aa s.args.length ca) (.slice Ab s.body.length cb) (.slice Ae s.els.length ce) W ((ha.up hX.bel).up h) ((hb.up hX.bel).up h) ((he.up hX.bel).up h))
        have HFN := Lib.hid hfn
        clear cc hge hsa hsb hse ha hb he hX hva hvb hfn hos hFn HJ
        go_wp2_with fail
        refine (HCS.out _ (bal wr _)).mono ?_
        rintro e w2 ⟨va', vb', ve', J, rfl, hcl⟩
        obtain ⟨A5, c5', rfl⟩ := hcl.a.slice
        obtain ⟨A6, c6', rfl⟩ := hcl.b.slice
        obtain ⟨A7, c7', rfl⟩ := hcl.e.slice
        have hcl := hcl.low
        have R2 := HX.out.row.bel hcl.bel hgr
        have hge2 := rowsS_get (V := V) HLI.out
        have dd := fun (j : Nat) u hj => R2.cell (j := j) (u := u) hge2 hj
        have d0 := dd 0 _ rfl
        have d1 := dd 1 _ rfl
        have d2 := dd 2 _ rfl
        have d3 := dd 3 _ rfl
        have d4 := dd 4 _ rfl
        have d5 := dd 5 _ rfl
        have d6 := dd 6 _ rfl
        have d7 := dd 7 _ rfl
        rw [Nat.add_zero] at d0
        have fg := R2.free
        have hg2 : g < w2.heap.size := R2.lt
        have HS := Lib.hid (HX.out.step HLI.out hcl)
        have hgs := store8_size w2 g i s (.slice A5 s.args.length c5') (.slice A6 s.body.length c6') (.slice A7 s.els.length c7')
        clear dd hge2 R2 hcl c0 c1 c2 c3 c4 c5 c6 c7 HX
        go_wp2_with fail
        go_roundw
        case rel => exact ⟨i + 1, b, by omega, by go_num, hb2, by rw [hgs]; exact hg2, HFN, Lib.hid ⟨_, _, HS.out⟩⟩
        case measure => simp [intOf]; omega
      · obtain rfl : i = l.length := by omega
        obtain ⟨V, I, hX⟩ := HJ.out
        have HD := Lib.hid ((hX.done fun i s hs => (HV.out i s hs).1).os hl1000)
        have HB := Lib.hid hX.bel
        clear hX HJ
        go_wp2_with fail
        go_ret
        exact ⟨_, rfl, HB.out, HD.out⟩
end Go.Proofs.YthiilnhiihfknaaDoor
