/-
  What is read has the right shape. No program is named here.
  Same of the document; the law's refs and same; a clone that is equal: contracts. Written by gen5_ref8.py.
  The law's refs; a clone of tokens that is equal to them: contracts. Written by gen5_ref9.py.
  ExprReads, its examples' contract given. Written by gen5_reads.py.
-/
import Derived.Test.YtlhifbckmknijaaGreatDoorETree
import Derived.Test.YtlhifbckmknijaaGreatDoorERef5
import Derived.Test.YtlhifbckmknijaaGreatDoorEWorks
import Derived.Test.YtlhifbckmknijaaGreatDoorETk
import Derived.BigRegion
import Derived.Deep.RegionWith
import Derived.Deep.RegionHeld3
import Derived.Test.YtlhifbckmknijaaGreatDoorERef4
import Derived.Lib.AppendZeros
namespace Go.Proofs.YtlhifbckmknijaaGreatDoor.E5
open Go Go.Proofs.YtlhifbckmknijaaGreatDoor

def Res.gd : Res → Prop
  | .ok e _ => S3.exB e = true
  | .bad _ _ => True
theorem gd_bind {r : Res} {f : Ex → Nat → Res} (h : r.gd) (hf : ∀ e n, S3.exB e = true → (f e n).gd) : (r.bind f).gd := by
  cases r with
  | ok e n => exact hf e n h
  | bad j c => trivial
theorem gd_made (e : Ex) (n : Nat) : (madeR e n).gd := by
  unfold madeR
  split
  · assumption
  · trivial
theorem gd_lf {e : Ex} (hf : S3.fitB e = true) (ha : e.args = []) : S3.exB e = true := (gd_leaf hf ha).exB (by decide)
theorem numP_le {s : Bytes} {n : Int} (h : N2.numParse s = some n) : n ≤ 9223372036854775807 := by
  unfold N2.numParse at h
  split at h
  · rename_i h1
    cases h
    exact h1.2.2
  · cases h
theorem gd_num (l : TL) (i : Nat) : (numR l i).gd := by
  unfold numR
  split
  · rename_i n hn
    unfold numT at hn
    split at hn
    · rename_i m hm
      split at hn
      · rename_i h0
        cases hn
        exact gd_lf (fit_num h0 (numP_le hm)) rfl
      · cases hn
    · cases hn
  · trivial
theorem gd_nm {t : Int × Bytes} (h : nmTok t = true) : S3.nameB t.2 = true := by
  unfold nmTok at h
  simp only [Bool.and_eq_true] at h
  exact h.2
theorem gd_len (l : TL) (i : Nat) : (lenR l i).gd := by
  unfold lenR
  split
  · split
    · rename_i h
      split
      · exact gd_lf (fit_len (gd_nm h)) rfl
      · trivial
    · trivial
  · trivial
theorem gd_key (l : TL) (i : Nat) : (keyR l i).gd := by
  unfold keyR
  split
  · exact gd_lf (fit_bool true) rfl
  split
  · exact gd_lf (fit_bool false) rfl
  split
  · exact gd_len _ _
  · trivial
theorem gd_all (l : TL) : ∀ f, (∀ i d, (opd l f i d).gd) ∧ (∀ i d m, (bin l f i d m).gd) ∧ (∀ e i d m, S3.exB e = true → (lop l f e i d m).gd) := by
  intro f
  induction f with
  | zero => exact ⟨fun i d => by rw [opd]; trivial, fun i d m => by rw [bin]; trivial, fun e i d m _ => by rw [lop]; trivial⟩
  | succ f ih =>
    obtain ⟨h1, h2, h3⟩ := ih
    refine ⟨fun i d => ?_, fun i d m => ?_, fun e i d m he => ?_⟩
    · rw [opd]
      split
      · exact gd_num _ _
      split
      · split
        · rename_i hn
          split
          · split
            · trivial
            · refine gd_bind (h2 _ _ _) fun e n _ => ?_
              split
              · exact gd_made _ _
              · trivial
          · exact gd_lf (fit_var hn) rfl
        · trivial
      split
      · exact gd_key _ _
      split
      · split
        · trivial
        · exact gd_bind (h1 _ _) fun e n _ => gd_made _ _
      split
      · split
        · trivial
        · exact gd_bind (h1 _ _) fun e n _ => gd_made _ _
      split
      · split
        · trivial
        · refine gd_bind (h2 _ _ _) fun e n he => ?_
          split
          · exact he
          · trivial
      · trivial
    · rw [bin]
      exact gd_bind (h1 _ _) fun e n he => h3 _ _ _ _ he
    · rw [lop]
      split
      · exact he
      · exact gd_bind (h2 _ _ _) fun x n _ => gd_bind (gd_made _ _) fun y k hy => h3 _ _ _ _ hy
theorem gd_parse (l : TL) (i d : Nat) : (parseR l i d).gd := (gd_all l _).2.1 i d 1
def ResL.gd : ResL → Prop
  | .ok es _ => ∀ e ∈ es, S3.exB e = true
  | .bad _ _ => True
theorem gd_lst (l : TL) (d : Nat) : ∀ f acc i, (∀ e ∈ acc, S3.exB e = true) → (lstR l d f acc i).gd := by
  intro f
  induction f with
  | zero => intro acc i _; rw [lstR]; trivial
  | succ f ih =>
    intro acc i ha
    have hp := gd_parse l i d
    rw [lstR]
    cases hr : parseR l i d with
    | bad j c => trivial
    | ok e n =>
      rw [hr] at hp
      have hs : ∀ x ∈ acc ++ [e], S3.exB x = true := fun x hx => by
        rcases List.mem_append.1 hx with hx | hx
        · exact ha x hx
        · obtain rfl := List.mem_singleton.1 hx
          exact hp
      simp only
      split
      · exact ih _ _ hs
      split
      · exact hs
      · trivial
theorem gd_list (l : TL) (i d : Nat) : (listR l i d).gd := by
  unfold listR
  split
  · split
    · intro e he; cases he
    · exact gd_lst l d _ _ _ fun e he => by cases he
  · trivial
end Go.Proofs.YtlhifbckmknijaaGreatDoor.E5

namespace Go.Proofs.YtlhifbckmknijaaGreatDoor.E5
open Go Go.RowKit Go.Proofs.YtlhifbckmknijaaGreatDoor

/-! ### Same -/
theorem refsame_true (e : Ex) (ho : S3.OkE e) (hx : S3.exB e = true) (va vb : Value) (w : World) (hE1 : S3.EIn w w.heap.size e.args va) (hE2 : S3.EIn w w.heap.size e.args vb) :
    Calls Tryz.prog 50 #[S3.eV e va, S3.eV e vb] w fun r w' => r = .returned (.bool true) ∧ Below w.heap.size w w' := by
  refine (S3.refSameExpr_calls e e ho ho va vb w hE1 hE2).mono ?_
  rintro r w' ⟨rfl, hb⟩
  refine ⟨?_, hb⟩
  rw [show S3.sameE e e = true by simp [S3.sameE, S3.eqE, hx]]
set_option maxRecDepth 100000 in
set_option maxHeartbeats 4000000 in
theorem rsame_calls (es : List Ex) (hx : ∀ e ∈ es, S3.exB e = true) (va vb : Value) (w : World) (hA : S3.EIn w w.heap.size es va) (hB : S3.EIn w w.heap.size es vb) :
    Calls Tryz.prog 17 #[va, vb] w fun r w' => r = .returned (.bool true) ∧ Below w.heap.size w w' := by
  obtain ⟨A, c, rfl⟩ := hA.slice
  obtain ⟨A', c', rfl⟩ := hB.slice
  have hle := hA.le
  obtain ⟨_, ha⟩ := hA.at_
  obtain ⟨_, hb⟩ := hB.at_
  have HA := Lib.hid ha
  have HB := Lib.hid hb
  have HX := Lib.hid hx
  clear hA hB ha hb hx
  go_enter Tryz.func17, Tryz.ntmps17
  go_wp2_with fail
  go_loopw [5] (fun i wr => ∃ k : Nat, k ≤ es.length ∧ i = .int .i64 (k : Int) ∧ Hid (Below w.heap.size w wr)) (fun i _ => es.length - (intOf i).toNat)
  case atStart => exact ⟨0, by omega, rfl, Lib.hid (Below.refl _ _)⟩
  case round =>
    obtain ⟨k, hk, rfl, HW⟩ := hrel
    by_cases hlt : k < es.length
    · have hlt' : (k : Int) < (es.length : Int) := by omega
      obtain ⟨b1, o1, v1, hA1, hb1, hok, hc1, he1⟩ := HA.out k hlt
      obtain ⟨b2, o2, v2, hA2, hb2, _, hc2, he2⟩ := HB.out k hlt
      have hxk := HX.out es[k] (List.getElem_mem hlt)
      subst hA1
      subst hA2
      generalize es[k] = e at *
      obtain ⟨x0, x1, x2, x3, x4⟩ := hc1.keep fun i => HW.out.cell (p := ⟨b1, i, none⟩) hb1
      obtain ⟨y0, y1, y2, y3, y4⟩ := hc2.keep fun i => HW.out.cell (p := ⟨b2, i, none⟩) hb2
      have hE1 := (he1.keep HW.out.size (fun b i hb => HW.out.cell (p := ⟨b, i, none⟩) hb))
      have hE2 := (he2.keep HW.out.size (fun b i hb => HW.out.cell (p := ⟨b, i, none⟩) hb))
      have hbw1 : b1 < wr.heap.size := by have := HW.out.size; omega
      have hbw2 : b2 < wr.heap.size := by have := HW.out.size; omega
      have HC := Lib.hid (fun W (hb : Below wr.heap.size wr W) => refsame_true e hok hxk v1 v2 W (hE1.up hb) (hE2.up hb))
      have hS0 := Lib.hid (bal_dr2 wr)
      have qx0 := fun W1 (h : Hid (Below wr.heap.size wr W1)) => (h.out.cell (p := ⟨b1, o1 + k * 5, none⟩) hbw1).trans x0
      have qx1 := fun W1 (h : Hid (Below wr.heap.size wr W1)) => (h.out.cell (p := ⟨b1, o1 + k * 5 + 1, none⟩) hbw1).trans x1
      have qx2 := fun W1 (h : Hid (Below wr.heap.size wr W1)) => (h.out.cell (p := ⟨b1, o1 + k * 5 + 2, none⟩) hbw1).trans x2
      have qx3 := fun W1 (h : Hid (Below wr.heap.size wr W1)) => (h.out.cell (p := ⟨b1, o1 + k * 5 + 3, none⟩) hbw1).trans x3
      have qx4 := fun W1 (h : Hid (Below wr.heap.size wr W1)) => (h.out.cell (p := ⟨b1, o1 + k * 5 + 4, none⟩) hbw1).trans x4
      have qy0 := fun W1 (h : Hid (Below wr.heap.size wr W1)) => (h.out.cell (p := ⟨b2, o2 + k * 5, none⟩) hbw2).trans y0
      have qy1 := fun W1 (h : Hid (Below wr.heap.size wr W1)) => (h.out.cell (p := ⟨b2, o2 + k * 5 + 1, none⟩) hbw2).trans y1
      have qy2 := fun W1 (h : Hid (Below wr.heap.size wr W1)) => (h.out.cell (p := ⟨b2, o2 + k * 5 + 2, none⟩) hbw2).trans y2
      have qy3 := fun W1 (h : Hid (Below wr.heap.size wr W1)) => (h.out.cell (p := ⟨b2, o2 + k * 5 + 3, none⟩) hbw2).trans y3
      have qy4 := fun W1 (h : Hid (Below wr.heap.size wr W1)) => (h.out.cell (p := ⟨b2, o2 + k * 5 + 4, none⟩) hbw2).trans y4
      clear hc1 hc2 he1 he2 hE1 hE2 hok hxk
      go_wp2_with fail
      refine wp_region_noPanic ?_
      refine wp_region_held_drew (S := fun W1 => Hid (Below wr.heap.size wr W1)) (by kernel_rfl) hS0 (fun hHeld => ?_)
      clear hS0
      generalize wr.drew = wd at *
      refine wpAnyH_take (i := 0) (oi := { dst := some 17, op := Go.Op.move (Go.Operand.tmp 0), type := 27, pos := "ref.go:212", after := #[], guard := none }) (v := ?_) rfl (by as_aux_lemma => kernel_rfl) (by as_aux_lemma => kernel_rfl) (by as_aux_lemma => kernel_rfl) (fun _ _ _ h => h) (Or.inl ⟨by rfl, ?_⟩) hHeld ?_
      rotate_left
      · (intro w hSw; (try dsimp only at hSw); go_simp; try with_reducible rfl)
      try simp only [Act.put, List.setIfInBounds_toArray, List.set_cons_zero, List.set_cons_succ]
      refine wpAnyH_take (i := 1) (oi := { dst := some 18, op := Go.Op.move (Go.Operand.tmp 5), type := 3, pos := "ref.go:212", after := #[], guard := none }) (v := ?_) rfl (by as_aux_lemma => kernel_rfl) (by as_aux_lemma => kernel_rfl) (by as_aux_lemma => kernel_rfl) (fun _ _ _ h => h) (Or.inl ⟨by rfl, ?_⟩) hHeld ?_
      rotate_left
      · (intro w hSw; (try dsimp only at hSw); go_simp; try with_reducible rfl)
      try simp only [Act.put, List.setIfInBounds_toArray, List.set_cons_zero, List.set_cons_succ]
      refine wpAnyH_take (i := 2) (oi := { dst := some 19, op := Go.Op.indexAddr 27 (Go.Operand.tmp 17) (Go.Operand.tmp 18), type := 0, pos := "ref.go:212", after := #[{ on := 0, ground := Go.Ground.data }, { on := 1, ground := Go.Ground.data }], guard := none }) (v := ?_) rfl (by as_aux_lemma => kernel_rfl) (by as_aux_lemma => kernel_rfl) (by as_aux_lemma => kernel_rfl) (fun _ _ _ h => h) (Or.inl ⟨by rfl, ?_⟩) hHeld ?_
      rotate_left
      · (intro w hSw; (try dsimp only at hSw); go_simp; try with_reducible rfl)
      try simp only [Act.put, List.setIfInBounds_toArray, List.set_cons_zero, List.set_cons_succ]
      refine wpAnyH_take (i := 3) (oi := { dst := some 20, op := Go.Op.load 29 (Go.Operand.tmp 19), type := 29, pos := "ref.go:212", after := #[{ on := 2, ground := Go.Ground.data }], guard := none }) (v := ?_) rfl (by as_aux_lemma => kernel_rfl) (by as_aux_lemma => kernel_rfl) (by as_aux_lemma => kernel_rfl) (fun _ _ _ h => h) (Or.inl ⟨by rfl, ?_⟩) hHeld ?_
      rotate_left
      · (intro w hSw; (try dsimp only at hSw); go_simp; try with_reducible rfl)
      try simp only [Act.put, List.setIfInBounds_toArray, List.set_cons_zero, List.set_cons_succ]
      refine wpAnyH_take (i := 4) (oi := { dst := some 21, op := Go.Op.move (Go.Operand.tmp 1), type := 27, pos := "ref.go:212", after := #[], guard := none }) (v := ?_) rfl (by as_aux_lemma => kernel_rfl) (by as_aux_lemma => kernel_rfl) (by as_aux_lemma => kernel_rfl) (fun _ _ _ h => h) (Or.inl ⟨by rfl, ?_⟩) hHeld ?_
      rotate_left
      · (intro w hSw; (try dsimp only at hSw); go_simp; try with_reducible rfl)
      try simp only [Act.put, List.setIfInBounds_toArray, List.set_cons_zero, List.set_cons_succ]
      refine wpAnyH_take (i := 5) (oi := { dst := some 22, op := Go.Op.move (Go.Operand.tmp 5), type := 3, pos := "ref.go:212", after := #[], guard := none }) (v := ?_) rfl (by as_aux_lemma => kernel_rfl) (by as_aux_lemma => kernel_rfl) (by as_aux_lemma => kernel_rfl) (fun _ _ _ h => h) (Or.inl ⟨by rfl, ?_⟩) hHeld ?_
      rotate_left
      · (intro w hSw; (try dsimp only at hSw); go_simp; try with_reducible rfl)
      try simp only [Act.put, List.setIfInBounds_toArray, List.set_cons_zero, List.set_cons_succ]
      refine wpAnyH_take (i := 6) (oi := { dst := some 23, op := Go.Op.indexAddr 27 (Go.Operand.tmp 21) (Go.Operand.tmp 22), type := 0, pos := "ref.go:212", after := #[{ on := 4, ground := Go.Ground.data }, { on := 5, ground := Go.Ground.data }], guard := none }) (v := ?_) rfl (by as_aux_lemma => kernel_rfl) (by as_aux_lemma => kernel_rfl) (by as_aux_lemma => kernel_rfl) (fun _ _ _ h => h) (Or.inl ⟨by rfl, ?_⟩) hHeld ?_
      rotate_left
      · (intro w hSw; (try dsimp only at hSw); go_simp; try with_reducible rfl)
      try simp only [Act.put, List.setIfInBounds_toArray, List.set_cons_zero, List.set_cons_succ]
      refine wpAnyH_take (i := 7) (oi := { dst := some 24, op := Go.Op.load 29 (Go.Operand.tmp 23), type := 29, pos := "ref.go:212", after := #[{ on := 6, ground := Go.Ground.data }], guard := none }) (v := ?_) rfl (by as_aux_lemma => kernel_rfl) (by as_aux_lemma => kernel_rfl) (by as_aux_lemma => kernel_rfl) (fun _ _ _ h => h) (Or.inl ⟨by rfl, ?_⟩) hHeld ?_
      rotate_left
      · (intro w hSw; (try dsimp only at hSw); go_simp; try with_reducible rfl)
      try simp only [Act.put, List.setIfInBounds_toArray, List.set_cons_zero, List.set_cons_succ]
      refine wpAnyH_ready (rs := [8]) (by as_aux_lemma => kernel_rfl) (List.cons_ne_nil _ _) ?_
      refine AllReadyH.cons (o := { dst := some 25, op := Go.Op.call { callee := Go.Callee.value (Go.Operand.func 50), args := #[Go.Operand.tmp 20, Go.Operand.tmp 24], argTypes := #[29, 29] }, type := 4, pos := "ref.go:212", after := #[{ on := 3, ground := Go.Ground.data }, { on := 7, ground := Go.Ground.data }], guard := none }) rfl (fun K hK => ?_) AllReadyH.nil
      go_simp
      refine (HC.out _ hHeld.out).mono ?_
      rintro e wy ⟨rfl, hb⟩
      have hSy := Lib.hid (after hHeld.out hb)
      have HWy := Lib.hid (HW.out.trans (hSy.out.mono HW.out.size))
      clear hb
      go_wp2_with fail
      refine hK.out _ _ hSy (fun hHeld2 => ?_)
      clear hK K hHeld
      have hHeld := hHeld2
      clear hHeld2
      try simp only [Act.put, List.setIfInBounds_toArray, List.set_cons_zero, List.set_cons_succ]
      refine wpAnyH_ready (rs := [9]) (by as_aux_lemma => kernel_rfl) (List.cons_ne_nil _ _) ?_
      refine AllReadyH.cons (o := { dst := some 26, op := Go.Op.unOp Go.UnOp.not 4 (Go.Operand.tmp 25), type := 4, pos := "ref.go:212", after := #[{ on := 8, ground := Go.Ground.data }], guard := none }) rfl (fun K hK => ?_) AllReadyH.nil
      go_simp
      refine hK.out _ _ hHeld (fun _ => ?_)
      clear hK K
      try simp only [Act.put, List.setIfInBounds_toArray, List.set_cons_zero, List.set_cons_succ]
      refine wpAnyH_done (by kernel_rfl) ?_ _
      refine NoPanic.normal ?_
      go_wp2_with fail
      go_roundw
      case rel => exact ⟨k + 1, by omega, by go_num, HWy⟩
      case measure => simp [intOf]; omega
    · obtain rfl : k = es.length := by omega
      go_wp2_with fail
      go_ret
      exact ⟨rfl, HW.out⟩

/-! ### the law's same -/
set_option maxRecDepth 100000 in
set_option maxHeartbeats 1000000 in
theorem zero_yes (w : World) (A : Option Addr) (c : Nat) : Calls Tryz.prog 49 #[S3.eV zE (.slice A 0 c)] w fun e w' => e = .returned (.bool true) ∧ Below w.heap.size w w' := by
  go_enter Tryz.func49, Tryz.ntmps49
  try simp only [List.append_eq, List.cons_append, List.nil_append]
  go_wp2_with fail
  go_ret
  exact ⟨rfl, S3.bal w _⟩
set_option maxRecDepth 100000 in
set_option maxHeartbeats 1000000 in
theorem zero_no (w : World) (e : Ex) (hk : e.kind ≠ 0) (va : Value) : Calls Tryz.prog 49 #[S3.eV e va] w fun r w' => r = .returned (.bool false) ∧ Below w.heap.size w w' := by
  have q : (e.kind == 0) = false := beq_eq_false_iff_ne.2 hk
  go_enter Tryz.func49, Tryz.ntmps49
  try simp only [List.append_eq, List.cons_append, List.nil_append]
  go_wp2_with fail
  go_ret
  exact ⟨rfl, S3.bal w _⟩
theorem exB_kind {e : Ex} (h : S3.exB e = true) : e.kind ≠ 0 := by
  intro h0
  unfold S3.exB at h
  have := of_decide_eq_true h
  apply this
  rw [S3.dep]
  have hf : S3.fitB e = false := by unfold S3.fitB; rw [h0]; rfl
  rw [hf]
  rfl
set_option maxRecDepth 100000 in
set_option maxHeartbeats 2000000 in
theorem lsame_zero (w : World) (A1 A2 : Option Addr) (c1 c2 : Nat) : Calls Tryz.prog 16 #[S3.eV zE (.slice A1 0 c1), S3.eV zE (.slice A2 0 c2)] w fun r w' => r = .returned (.bool true) ∧ Below w.heap.size w w' := by
  have hb2 : ∀ o p, Below w.heap.size w ((w.alloc o).alloc p) := fun o p => S3.bal2 w o p
  have HB2 := Lib.hid hb2
  clear hb2
  go_enter Tryz.func16, Tryz.ntmps16
  try simp only [List.append_eq, List.cons_append, List.nil_append]
  have X1 := (S3.EBox.new w zE (.slice A1 0 c1)).keep (S3.bal (w.alloc (S3.eO zE (.slice A1 0 c1))) (S3.eO zE (.slice A2 0 c2))) (by rw [S3.sz1]; omega)
  have X2 := S3.EBox.new (w.alloc (S3.eO zE (.slice A1 0 c1))) zE (.slice A2 0 c2)
  rw [S3.sz1] at X2
  go_wp2_with fail
  refine (zero_yes _ A1 c1).mono ?_
  rintro E w1 ⟨rfl, hb⟩
  obtain ⟨x0, x1, x2, x3, x4⟩ := X1.keep hb (by rw [S3.sz1, S3.sz1]; omega)
  obtain ⟨y0, y1, y2, y3, y4⟩ := X2.keep hb (by rw [S3.sz1, S3.sz1]; omega)
  have HB1 := Lib.hid (after (HB2.out _ _) hb)
  clear hb X1 X2
  go_wp2_with fail
  refine (zero_yes _ A2 c2).mono ?_
  rintro E w2 ⟨rfl, hb⟩
  have HB3 := Lib.hid (after HB1.out hb)
  clear hb
  go_wp2_with fail
  go_ret
  exact ⟨rfl, HB3.out⟩
set_option maxRecDepth 100000 in
set_option maxHeartbeats 2000000 in
theorem lsame_true (e : Ex) (ho : S3.OkE e) (hx : S3.exB e = true) (va vb : Value) (w : World) (hE1 : S3.EIn w w.heap.size e.args va) (hE2 : S3.EIn w w.heap.size e.args vb) (hG : S3.Glob w) :
    Calls Tryz.prog 16 #[S3.eV e va, S3.eV e vb] w fun r w' => r = .returned (.bool true) ∧ Below w.heap.size w w' := by
  obtain ⟨A1, c1, rfl⟩ := hE1.slice
  obtain ⟨A2, c2, rfl⟩ := hE2.slice
  have hb2 : ∀ o p, Below w.heap.size w ((w.alloc o).alloc p) := fun o p => S3.bal2 w o p
  have HB2 := Lib.hid hb2
  have HC := Lib.hid (fun W (hb : Below w.heap.size w W) => same_true e ho hx (.slice A1 e.args.length c1) (.slice A2 e.args.length c2) W (hE1.up hb) (hE2.up hb) (hG.up hb))
  have hk := exB_kind hx
  clear hb2 hE1 hE2 hG
  go_enter Tryz.func16, Tryz.ntmps16
  try simp only [List.append_eq, List.cons_append, List.nil_append]
  have X1 := (S3.EBox.new w e (.slice A1 e.args.length c1)).keep (S3.bal (w.alloc (S3.eO e (.slice A1 e.args.length c1))) (S3.eO e (.slice A2 e.args.length c2))) (by rw [S3.sz1]; omega)
  have X2 := S3.EBox.new (w.alloc (S3.eO e (.slice A1 e.args.length c1))) e (.slice A2 e.args.length c2)
  rw [S3.sz1] at X2
  go_wp2_with fail
  refine (zero_no _ e hk _).mono ?_
  rintro E w1 ⟨rfl, hb⟩
  obtain ⟨x0, x1, x2, x3, x4⟩ := X1.keep hb (by rw [S3.sz1, S3.sz1]; omega)
  obtain ⟨y0, y1, y2, y3, y4⟩ := X2.keep hb (by rw [S3.sz1, S3.sz1]; omega)
  have HB1 := Lib.hid (after (HB2.out _ _) hb)
  clear hb X1 X2
  go_wp2_with fail
  refine (HC.out _ HB1.out).mono ?_
  rintro E w2 ⟨rfl, hb⟩
  have HB3 := Lib.hid (after HB1.out hb)
  clear hb
  go_wp2_with fail
  go_ret
  exact ⟨rfl, HB3.out⟩
theorem lsame_good (e : Ex) (ho : S3.OkE e) (hgd : e = zE ∨ S3.exB e = true) (va vb : Value) (w : World) (hE1 : S3.EIn w w.heap.size e.args va) (hE2 : S3.EIn w w.heap.size e.args vb) (hG : S3.Glob w) :
    Calls Tryz.prog 16 #[S3.eV e va, S3.eV e vb] w fun r w' => r = .returned (.bool true) ∧ Below w.heap.size w w' := by
  rcases hgd with rfl | hx
  · obtain ⟨A1, c1, rfl⟩ := hE1.slice
    obtain ⟨A2, c2, rfl⟩ := hE2.slice
    exact lsame_zero w A1 A2 c1 c2
  · exact lsame_true e ho hx va vb w hE1 hE2 hG
end Go.Proofs.YtlhifbckmknijaaGreatDoor.E5

namespace Go.Proofs.YtlhifbckmknijaaGreatDoor.E5
open Go Go.RowKit Go.Proofs.YtlhifbckmknijaaGreatDoor

/-! ### refs -/
def kR : S3.RowKind (Int × List UInt8) Int := ⟨89, 3, fun t a => [.int .i64 t.1, .string (B t.2), .int .i64 a], fun _ _ t _ => t.2.length ≤ 9223372036854775807, fun _ _ => rfl, fun h _ _ => h⟩
theorem infoTR : (Tryz.prog.info? 89).map (fun i => (i.zero, i.size, i.bytes)) = some (some (.agg #[.int .i64 0, .string ⟨#[]⟩, .int .i64 0]), 3, 32) := by kernel_rfl
theorem tokL_grR {base : Nat} {v : Value} {wr : World} {l : TL} (h : S3.GrI kR base l v wr) (hl : l.length ≤ 1000000) : TokL wr wr.heap.size v l := by
  rcases h.done with ⟨rfl, A, c, rfl⟩ | ⟨g, cap, V, rfl, hg, hr, hp⟩
  · exact ⟨A, c, rfl, by decide, fun i t hi => by simp at hi⟩
  · refine ⟨some ⟨g, 0, none⟩, cap, rfl, by omega, fun i t hi => ⟨hp i t hi, g, 0, V i, rfl, hr.lt, ?_⟩⟩
    have hrow : (kR.rows l V)[i]? = some [.int .i64 t.1, .string (B t.2), .int .i64 (V i)] := by simp [S3.RowKind.rows, List.getElem?_mapIdx, hi, kR]
    have c := fun j u hj => hr.cell (j := j) (u := u) hrow hj
    rw [Nat.zero_add]
    exact ⟨c 0 _ rfl, c 1 _ rfl, c 2 _ rfl⟩
/-- A token put behind a row of one's own. -/
theorem tk_app {base : Nat} {acc : TL} {x : Value} {W : World} {t : Int × List UInt8} {a : Int} (h : S3.GrI kR base acc x W) (ht : t.2.length ≤ 9223372036854775807) (hl : acc.length ≤ 1000000) (ty : TypeId) :
    ∃ g cap w8, (Builtin.append_ #[34, 34] ty #[x, .slice (some ⟨W.heap.size, 0, none⟩) 1 1]).run Tryz.prog (W.alloc (tO t a)) = .ok (.slice (some ⟨g, 0, none⟩) (acc.length + 1) cap) w8 ∧
      S3.GrI kR base (acc ++ [t]) (.slice (some ⟨g, 0, none⟩) (acc.length + 1) cap) w8 ∧ Below base W w8 := by
  obtain ⟨i0, hi0, hz0, hz1, hz2⟩ := L4.info_partsT infoTR
  obtain ⟨xs, hown, hst⟩ := h.own
  have hbase : base ≤ W.heap.size := by obtain ⟨_, _, _, h3⟩ := h; exact h3
  obtain ⟨v', w', hrun, h2, h3, _, h5⟩ := run_append_own_at (P := Tryz.prog) (W.alloc (tO t a)) base 34 ty 89 i0 _ 3 32 Tryz.underlying34 hi0 hz0 hz1 hz2 rfl (by decide) x acc.length xs (hown.alloc _) ⟨W.heap.size, 0, none⟩ 1 1 (kR.row t a) rfl
    (fun j u hu => by rw [add_plain, Nat.zero_add]; exact S3.newCell W _ 89 j u (by rw [List.getElem?_toArray]; exact hu)) (by intro u hu; simp [kR] at hu; rcases hu with rfl | rfl | rfl <;> rfl) (by unfold maxLen; omega) (by omega) (by rw [S3.sz1]; omega)
  obtain ⟨g, cap, rfl⟩ : ∃ g cap, v' = .slice (some ⟨g, 0, none⟩) (acc.length + 1) cap := by
    rcases h2.2 with ⟨_, h9⟩ | ⟨g, cap, cur, e1, _⟩
    · omega
    · exact ⟨g, cap, e1⟩
  have h6 : x.ownBlock = some g ∨ g = (W.alloc (tO t a)).heap.size := by
    rcases h5 with h5 | h5
    · exact .inl h5.symm
    · simp only [Value.ownBlock, Option.some.injEq] at h5; exact .inr h5
  obtain ⟨h7, h8⟩ := hst t a _ g cap w' ht h2 h3 h6
  exact ⟨g, cap, w', hrun, h7, h8⟩
set_option maxRecDepth 100000 in
set_option maxHeartbeats 2000000 in
theorem refs_calls {w : World} {l : TL} {v : Value} (hT : TokL w w.heap.size v l) (hll : l.length ≤ 1000000) :
    Calls Tryz.prog 13 #[v] w fun E w' => ∃ A c, E = .returned (.slice A l.length c) ∧ TokL w' w'.heap.size (.slice A l.length c) l ∧ Below w.heap.size w w' := by
  obtain ⟨A, c, rfl, hl, ht⟩ := hT
  have HT := Lib.hid ht
  clear ht
  have H0 := Lib.hid (show S3.GrI kR w.heap.size (l.take 0) (.slice none 0 0) w from S3.GrI.start kR (Nat.le_refl _) (fun _ => 0))
  go_enter Tryz.func13, Tryz.ntmps13
  go_wp2_with fail
  go_loopw [3, 8] (fun x i wr => ∃ k : Nat, k ≤ l.length ∧ i = .int .i64 (k : Int) ∧ Hid (S3.GrI kR w.heap.size (l.take k) x wr) ∧ Hid (Below w.heap.size w wr) ∧ ∃ Ax cx, Hid (x = .slice Ax k cx)) (fun _ i _ => l.length - (intOf i).toNat)
  case atStart => exact ⟨0, by omega, rfl, H0, Lib.hid (Below.refl _ _), none, 0, Lib.hid rfl⟩
  case round =>
    clear H0
    obtain ⟨k, hk, rfl, HG, HB, Ax, cx, HX⟩ := hrel
    by_cases hlt : k < l.length
    · have hlt' : (k : Int) < (l.length : Int) := by omega
      obtain ⟨t, htk⟩ : ∃ t, l[k]? = some t := ⟨_, List.getElem?_eq_getElem hlt⟩
      obtain ⟨hts, b, o, a, hA, hbw, t0, t1, t2⟩ := HT.out k t htk
      subst hA
      have t0 := (HB.out.cell (p := ⟨b, o + k * 3, none⟩) hbw).trans t0
      have t1 := (HB.out.cell (p := ⟨b, o + k * 3 + 1, none⟩) hbw).trans t1
      have t2 := (HB.out.cell (p := ⟨b, o + k * 3 + 2, none⟩) hbw).trans t2
      have hbw2 : b < wr.heap.size := by have := HB.out.size; omega
      have hlen : (l.take k).length = k := by rw [List.length_take, Nat.min_eq_left (Nat.le_of_lt hlt)]
      have htake : l.take (k + 1) = l.take k ++ [t] := by rw [List.take_add_one, htk]; simp
      have b1 := S3.bal wr (.cells #[.int .i64 t.1, .string (B t.2), .int .i64 a] 26)
      obtain ⟨g, cap, w8, r8, hG, hB8⟩ := tk_app (t := t) (a := a) (HG.out.bel b1) hts (by omega) 34
      rw [S3.sz1] at r8
      rw [hlen] at r8 hG
      rw [← htake] at hG
      have R8 := Lib.hid r8
      have HG8 := Lib.hid hG
      have HB8 := Lib.hid ((after HB.out b1).trans hB8)
      clear r8 hG hB8 b1 htake hlen htk HG
      go_wp2_with (at_builtin; refine Lib.wpList_append_run _ rfl _ _ _ _ rfl _ _ rfl rfl _ _ R8.out ?_)
      go_roundw
      case rel => exact ⟨k + 1, by omega, by go_num, HG8, HB8, _, _, Lib.hid rfl⟩
      case measure => simp [intOf]; omega
    · obtain rfl : k = l.length := by omega
      have HTk := Lib.hid (show TokL wr wr.heap.size u3 l by have := tokL_grR HG.out (by rw [List.take_length]; omega); rwa [List.take_length] at this)
      obtain rfl := HX.out
      go_wp2_with fail
      go_ret
      exact ⟨_, _, rfl, HTk.out, HB.out⟩

/-! ### a clone, and that it is equal -/
/-- Tokens with their places. -/
def AtL (W : World) (M : Nat) (v : Value) (l : TL) (V : Nat → Int) : Prop :=
  ∃ A c, v = .slice A l.length c ∧ ∀ (i : Nat) t, l[i]? = some t → ∃ b o, A = some ⟨b, o, none⟩ ∧ b < M ∧ W.cell? ⟨b, o + i * 3, none⟩ = some (.int .i64 t.1) ∧ W.cell? ⟨b, o + i * 3 + 1, none⟩ = some (.string (B t.2)) ∧ W.cell? ⟨b, o + i * 3 + 2, none⟩ = some (.int .i64 (V i))
theorem AtL.bel {W W' : World} {M : Nat} {v : Value} {l : TL} {V : Nat → Int} (h : AtL W M v l V) (hb : Below M W W') : AtL W' M v l V := by
  obtain ⟨A, c, h1, h2⟩ := h
  refine ⟨A, c, h1, fun i t hi => ?_⟩
  obtain ⟨b, o, e1, e2, e3, e4, e5⟩ := h2 i t hi
  exact ⟨b, o, e1, e2, (hb.cell (p := ⟨b, o + i * 3, none⟩) e2).trans e3, (hb.cell (p := ⟨b, o + i * 3 + 1, none⟩) e2).trans e4, (hb.cell (p := ⟨b, o + i * 3 + 2, none⟩) e2).trans e5⟩
theorem AtL.mono {W : World} {M M' : Nat} {v : Value} {l : TL} {V : Nat → Int} (h : AtL W M v l V) (hM : M ≤ M') : AtL W M' v l V := by
  obtain ⟨A, c, h1, h2⟩ := h
  refine ⟨A, c, h1, fun i t hi => ?_⟩
  obtain ⟨b, o, e1, e2, e3⟩ := h2 i t hi
  exact ⟨b, o, e1, Nat.lt_of_lt_of_le e2 hM, e3⟩
theorem AtL.tok {W : World} {M : Nat} {v : Value} {l : TL} {V : Nat → Int} (h : AtL W M v l V) (hl : l.length ≤ 9223372036854775807) (ht : ∀ (i : Nat) t, l[i]? = some t → t.2.length ≤ 9223372036854775807) : TokL W M v l := by
  obtain ⟨A, c, h1, h2⟩ := h
  refine ⟨A, c, h1, hl, fun i t hi => ?_⟩
  obtain ⟨b, o, e1, e2, e3, e4, e5⟩ := h2 i t hi
  exact ⟨ht i t hi, b, o, V i, e1, e2, e3, e4, e5⟩
theorem clone_at {w : World} {l : TL} {A : Option Addr} {n c : Nat} (h : TokL w w.heap.size (.slice A n c) l) (hl : l.length ≤ 1000000) :
    ∃ V : Nat → Int, AtL w w.heap.size (.slice A n c) l V ∧ Calls Tryz.prog 10 #[.slice A n c] w fun e w' => ∃ A' c', e = .returned (.slice A' l.length c') ∧ AtL w' w'.heap.size (.slice A' l.length c') l V ∧ Below w.heap.size w w' := by
  have h0 := h
  obtain ⟨A', c', h1, h2, h3⟩ := h0
  cases h1
  have each : ∀ i, ∃ a : Int, ∀ t, l[i]? = some t → t.2.length ≤ 9223372036854775807 ∧ ∃ b o, A = some ⟨b, o, none⟩ ∧ b < w.heap.size ∧ w.cell? ⟨b, o + i * 3, none⟩ = some (.int .i64 t.1) ∧ w.cell? ⟨b, o + i * 3 + 1, none⟩ = some (.string (B t.2)) ∧ w.cell? ⟨b, o + i * 3 + 2, none⟩ = some (.int .i64 a) := by
    intro i
    cases hi : l[i]? with
    | none => exact ⟨0, fun t ht => by cases ht⟩
    | some t =>
      obtain ⟨e0, b, o, a, e1, e2, e3, e4, e5⟩ := h3 i t hi
      exact ⟨a, fun t' ht => by cases ht; exact ⟨e0, b, o, e1, e2, e3, e4, e5⟩⟩
  obtain ⟨V, hV⟩ := Classical.axiomOfChoice each
  have hl2 : (kA.rows l V).length = l.length := S3.RowKind.rows_len l V
  refine ⟨V, ⟨A, c, rfl, fun i t hi => (hV i t hi).2⟩, ?_⟩
  have hC := cloneTk (kA.rows l V) (S3.RowKind.rows_sz l V) (kA_one l V) (by omega) A c w (fun h0 => by
    rw [hl2] at h0
    obtain ⟨_, b, o, e1, e2, _⟩ := hV 0 l[0] (List.getElem?_eq_getElem h0)
    refine ⟨b, o, e1, e2, S3.rows_read (sz := 3) (by omega) (S3.RowKind.rows_sz l V) fun i r j u hi hj => ?_⟩
    have hil : i < l.length := by
      have := (List.getElem?_eq_some_iff.1 hi).1
      rwa [S3.RowKind.rows_len] at this
    have hr : r = [.int .i64 (l[i]).1, .string (B (l[i]).2), .int .i64 (V i)] := by
      simp [S3.RowKind.rows, List.getElem?_mapIdx, List.getElem?_eq_getElem hil, kA] at hi
      exact hi.symm
    subst hr
    obtain ⟨_, b', o', f1, _, f3, f4, f5⟩ := hV i l[i] (List.getElem?_eq_getElem hil)
    rw [e1] at f1
    cases f1
    match j, hj with
    | 0, hj => cases hj; exact f3
    | 1, hj => cases hj; exact f4
    | 2, hj => cases hj; exact f5
    | j + 3, hj => simp at hj)
  rw [hl2] at hC
  refine hC.mono ?_
  rintro e w' ⟨v', rfl, ho, hb⟩
  rcases Nat.eq_zero_or_pos l.length with h0 | h0
  · have hnil := List.eq_nil_of_length_eq_zero h0
    subst hnil
    rcases ho.2 with ⟨rfl, _⟩ | ⟨g, cap, cur, rfl, _⟩
    · exact ⟨none, 0, rfl, ⟨none, 0, rfl, fun i t hi => by simp at hi⟩, hb⟩
    · exact ⟨_, cap, rfl, ⟨_, cap, rfl, fun i t hi => by simp at hi⟩, hb⟩
  · have ho' : w'.ownsRow w.heap.size 26 3 v' (kA.rows l V).length (kA.rows l V).flatten := by rw [hl2]; exact ho
    obtain ⟨g, cap, rfl, hg, hr⟩ := S3.RowAt.of_own ho' (S3.RowKind.rows_sz _ _) (by rw [hl2]; exact h0)
    rw [hl2]
    refine ⟨_, cap, rfl, ⟨_, cap, rfl, fun i t hi => ⟨g, 0, rfl, hr.lt, ?_⟩⟩, hb⟩
    have hrow : (kA.rows l V)[i]? = some [.int .i64 t.1, .string (B t.2), .int .i64 (V i)] := by simp [S3.RowKind.rows, List.getElem?_mapIdx, hi, kA]
    have c := fun j u hj => hr.cell (j := j) (u := u) hrow hj
    rw [Nat.zero_add]
    exact ⟨c 0 _ rfl, c 1 _ rfl, c 2 _ rfl⟩
set_option maxRecDepth 100000 in
set_option maxHeartbeats 4000000 in
theorem equal_calls {w : World} {l : TL} {V : Nat → Int} {va vb : Value} (hA : AtL w w.heap.size va l V) (hB : AtL w w.heap.size vb l V) (hl : l.length ≤ 1000000) :
    Calls Tryz.prog 18 #[va, vb] w fun r w' => r = .returned (.bool true) ∧ Below w.heap.size w w' := by
  obtain ⟨A, c, rfl, ha⟩ := hA
  obtain ⟨A', c', rfl, hb⟩ := hB
  have HA := Lib.hid ha
  have HB := Lib.hid hb
  clear ha hb
  go_enter Tryz.func18, Tryz.ntmps18
  go_wp2_with fail
  go_loopw [13] (fun i wr => ∃ k : Nat, k ≤ l.length ∧ i = .int .i64 (k : Int) ∧ Hid (Below w.heap.size w wr)) (fun i _ => l.length - (intOf i).toNat)
  case atStart => exact ⟨0, by omega, rfl, Lib.hid (Below.refl _ _)⟩
  case round =>
    obtain ⟨k, hk, rfl, HW⟩ := hrel
    by_cases hlt : k < l.length
    · have hlt' : (k : Int) < (l.length : Int) := by omega
      obtain ⟨t, htk⟩ : ∃ t, l[k]? = some t := ⟨_, List.getElem?_eq_getElem hlt⟩
      obtain ⟨b1, o1, hA1, hb1, x0, x1, x2⟩ := HA.out k t htk
      obtain ⟨b2, o2, hA2, hb2, y0, y1, y2⟩ := HB.out k t htk
      subst hA1
      subst hA2
      have x0 := (HW.out.cell (p := ⟨b1, o1 + k * 3, none⟩) hb1).trans x0
      have x1 := (HW.out.cell (p := ⟨b1, o1 + k * 3 + 1, none⟩) hb1).trans x1
      have x2 := (HW.out.cell (p := ⟨b1, o1 + k * 3 + 2, none⟩) hb1).trans x2
      have y0 := (HW.out.cell (p := ⟨b2, o2 + k * 3, none⟩) hb2).trans y0
      have y1 := (HW.out.cell (p := ⟨b2, o2 + k * 3 + 1, none⟩) hb2).trans y1
      have y2 := (HW.out.cell (p := ⟨b2, o2 + k * 3 + 2, none⟩) hb2).trans y2
      have HWd := Lib.hid (HW.out.drew)
      have hbw1 : b1 < wr.heap.size := by have := HW.out.size; omega
      have hbw2 : b2 < wr.heap.size := by have := HW.out.size; omega
      generalize V k = z at *
      obtain ⟨t1, t2⟩ := t
      simp only at x0 x1 y0 y1
      have hS0 := Lib.hid (bal_dr2 wr)
      have qx0 := fun W1 (h : Hid (Below wr.heap.size wr W1)) => (h.out.cell (p := ⟨b1, o1 + k * 3, none⟩) hbw1).trans x0
      have qx1 := fun W1 (h : Hid (Below wr.heap.size wr W1)) => (h.out.cell (p := ⟨b1, o1 + k * 3 + 1, none⟩) hbw1).trans x1
      have qx2 := fun W1 (h : Hid (Below wr.heap.size wr W1)) => (h.out.cell (p := ⟨b1, o1 + k * 3 + 2, none⟩) hbw1).trans x2
      have qy0 := fun W1 (h : Hid (Below wr.heap.size wr W1)) => (h.out.cell (p := ⟨b2, o2 + k * 3, none⟩) hbw2).trans y0
      have qy1 := fun W1 (h : Hid (Below wr.heap.size wr W1)) => (h.out.cell (p := ⟨b2, o2 + k * 3 + 1, none⟩) hbw2).trans y1
      have qy2 := fun W1 (h : Hid (Below wr.heap.size wr W1)) => (h.out.cell (p := ⟨b2, o2 + k * 3 + 2, none⟩) hbw2).trans y2
      clear htk
      go_wp2_with fail
      refine wp_region_noPanic ?_
      refine wp_region_held_drew (S := fun W1 => Hid (Below wr.heap.size wr W1)) (by kernel_rfl) hS0 (fun hHeld => ?_)
      clear hS0
      generalize wr.drew = wd at *
      refine wpAnyH_take (i := 0) (oi := { dst := some 16, op := Go.Op.move (Go.Operand.tmp 0), type := 22, pos := "slices.go:25", after := #[], guard := none }) (v := ?_) rfl (by as_aux_lemma => kernel_rfl) (by as_aux_lemma => kernel_rfl) (by as_aux_lemma => kernel_rfl) (fun _ _ _ h => h) (Or.inl ⟨by rfl, ?_⟩) hHeld ?_
      rotate_left
      · (intro w hSw; (try dsimp only at hSw); go_simp; try with_reducible rfl)
      try simp only [Act.put, List.setIfInBounds_toArray, List.set_cons_zero, List.set_cons_succ]
      refine wpAnyH_take (i := 1) (oi := { dst := some 17, op := Go.Op.move (Go.Operand.tmp 5), type := 3, pos := "slices.go:25", after := #[], guard := none }) (v := ?_) rfl (by as_aux_lemma => kernel_rfl) (by as_aux_lemma => kernel_rfl) (by as_aux_lemma => kernel_rfl) (fun _ _ _ h => h) (Or.inl ⟨by rfl, ?_⟩) hHeld ?_
      rotate_left
      · (intro w hSw; (try dsimp only at hSw); go_simp; try with_reducible rfl)
      try simp only [Act.put, List.setIfInBounds_toArray, List.set_cons_zero, List.set_cons_succ]
      refine wpAnyH_take (i := 2) (oi := { dst := some 18, op := Go.Op.indexAddr 22 (Go.Operand.tmp 16) (Go.Operand.tmp 17), type := 0, pos := "slices.go:25", after := #[{ on := 0, ground := Go.Ground.data }, { on := 1, ground := Go.Ground.data }], guard := none }) (v := ?_) rfl (by as_aux_lemma => kernel_rfl) (by as_aux_lemma => kernel_rfl) (by as_aux_lemma => kernel_rfl) (fun _ _ _ h => h) (Or.inl ⟨by rfl, ?_⟩) hHeld ?_
      rotate_left
      · (intro w hSw; (try dsimp only at hSw); go_simp; try with_reducible rfl)
      try simp only [Act.put, List.setIfInBounds_toArray, List.set_cons_zero, List.set_cons_succ]
      refine wpAnyH_take (i := 3) (oi := { dst := some 19, op := Go.Op.load 26 (Go.Operand.tmp 18), type := 26, pos := "slices.go:25", after := #[{ on := 2, ground := Go.Ground.data }], guard := none }) (v := ?_) rfl (by as_aux_lemma => kernel_rfl) (by as_aux_lemma => kernel_rfl) (by as_aux_lemma => kernel_rfl) (fun _ _ _ h => h) (Or.inl ⟨by rfl, ?_⟩) hHeld ?_
      rotate_left
      · (intro w hSw; (try dsimp only at hSw); go_simp; try with_reducible rfl)
      try simp only [Act.put, List.setIfInBounds_toArray, List.set_cons_zero, List.set_cons_succ]
      refine wpAnyH_take (i := 4) (oi := { dst := some 20, op := Go.Op.move (Go.Operand.tmp 1), type := 22, pos := "slices.go:25", after := #[], guard := none }) (v := ?_) rfl (by as_aux_lemma => kernel_rfl) (by as_aux_lemma => kernel_rfl) (by as_aux_lemma => kernel_rfl) (fun _ _ _ h => h) (Or.inl ⟨by rfl, ?_⟩) hHeld ?_
      rotate_left
      · (intro w hSw; (try dsimp only at hSw); go_simp; try with_reducible rfl)
      try simp only [Act.put, List.setIfInBounds_toArray, List.set_cons_zero, List.set_cons_succ]
      refine wpAnyH_take (i := 5) (oi := { dst := some 21, op := Go.Op.move (Go.Operand.tmp 5), type := 3, pos := "slices.go:25", after := #[], guard := none }) (v := ?_) rfl (by as_aux_lemma => kernel_rfl) (by as_aux_lemma => kernel_rfl) (by as_aux_lemma => kernel_rfl) (fun _ _ _ h => h) (Or.inl ⟨by rfl, ?_⟩) hHeld ?_
      rotate_left
      · (intro w hSw; (try dsimp only at hSw); go_simp; try with_reducible rfl)
      try simp only [Act.put, List.setIfInBounds_toArray, List.set_cons_zero, List.set_cons_succ]
      refine wpAnyH_take (i := 6) (oi := { dst := some 22, op := Go.Op.indexAddr 22 (Go.Operand.tmp 20) (Go.Operand.tmp 21), type := 0, pos := "slices.go:25", after := #[{ on := 4, ground := Go.Ground.data }, { on := 5, ground := Go.Ground.data }], guard := none }) (v := ?_) rfl (by as_aux_lemma => kernel_rfl) (by as_aux_lemma => kernel_rfl) (by as_aux_lemma => kernel_rfl) (fun _ _ _ h => h) (Or.inl ⟨by rfl, ?_⟩) hHeld ?_
      rotate_left
      · (intro w hSw; (try dsimp only at hSw); go_simp; try with_reducible rfl)
      try simp only [Act.put, List.setIfInBounds_toArray, List.set_cons_zero, List.set_cons_succ]
      refine wpAnyH_take (i := 7) (oi := { dst := some 23, op := Go.Op.load 26 (Go.Operand.tmp 22), type := 26, pos := "slices.go:25", after := #[{ on := 6, ground := Go.Ground.data }], guard := none }) (v := ?_) rfl (by as_aux_lemma => kernel_rfl) (by as_aux_lemma => kernel_rfl) (by as_aux_lemma => kernel_rfl) (fun _ _ _ h => h) (Or.inl ⟨by rfl, ?_⟩) hHeld ?_
      rotate_left
      · (intro w hSw; (try dsimp only at hSw); go_simp; try with_reducible rfl)
      try simp only [Act.put, List.setIfInBounds_toArray, List.set_cons_zero, List.set_cons_succ]
      refine wpAnyH_ready (rs := [8]) (by as_aux_lemma => kernel_rfl) (List.cons_ne_nil _ _) ?_
      refine AllReadyH.cons (o := { dst := some 24, op := Go.Op.binOp Go.BinOp.neq 26 (Go.Operand.tmp 19) (Go.Operand.tmp 23) 26, type := 4, pos := "slices.go:25", after := #[{ on := 3, ground := Go.Ground.data }, { on := 7, ground := Go.Ground.data }], guard := none }) rfl (fun K hK => ?_) AllReadyH.nil
      go_simp
      refine hK.out _ _ hHeld (fun _ => ?_)
      clear hK K
      try simp only [Act.put, List.setIfInBounds_toArray, List.set_cons_zero, List.set_cons_succ]
      refine wpAnyH_done (by kernel_rfl) ?_ _
      refine NoPanic.normal ?_
      go_wp2_with fail
      go_roundw
      case rel => exact ⟨k + 1, by omega, by go_num, HWd⟩
      case measure => simp [intOf]; omega
    · obtain rfl : k = l.length := by omega
      go_wp2_with fail
      go_ret
      exact ⟨rfl, HW.out⟩
end Go.Proofs.YtlhifbckmknijaaGreatDoor.E5

namespace Go.Proofs.YtlhifbckmknijaaGreatDoor.E5
open Go Go.RowKit Go.Proofs.YtlhifbckmknijaaGreatDoor

def PU (e : Ex) (i c : Int) (w : World) (E : Ending) (w' : World) : Prop := ∃ A k k2, E = .returned (.tuple #[S3.eV e (.slice A k k2), .int .i64 i, .int .i64 c]) ∧ S3.OkE e ∧ S3.EIn w' w'.heap.size e.args (.slice A k k2) ∧ Below w.heap.size w w'
def PLU (es : List Ex) (i c : Int) (w : World) (E : Ending) (w' : World) : Prop := ∃ A k, E = .returned (.tuple #[.slice A es.length k, .int .i64 i, .int .i64 c]) ∧ S3.EIn w' w'.heap.size es (.slice A es.length k) ∧ Below w.heap.size w w'
theorem zE_ok : S3.OkE zE := okE_leaf (k := 0) (n := 0) (s := []) (by decide) (by unfold S3.okI; omega) (by decide)
def resE : Res → Ex
  | .ok e _ => e
  | .bad _ _ => zE
def resI : Res → Int
  | .ok _ n => n
  | .bad j _ => j
def resC : Res → Int
  | .ok _ _ => 0
  | .bad _ c => c
theorem PU.of {r : Res} {w : World} {E : Ending} {w' : World} (h : PostP w r E w') : PU (resE r) (resI r) (resC r) w E w' := by
  cases r with
  | bad j c =>
    obtain ⟨h1, h2⟩ := h
    exact ⟨none, 0, 0, h1, zE_ok, S3.ER.nil none 0, h2⟩
  | ok e n =>
    obtain ⟨A, k, c, h1, h2, h3, h4⟩ := h
    exact ⟨A, k, c, h1, h2, er_in h3 (Nat.le_refl _), h4⟩
def resL : ResL → List Ex
  | .ok es _ => es
  | .bad _ _ => []
def resLI : ResL → Int
  | .ok _ n => n
  | .bad j _ => j
def resLC : ResL → Int
  | .ok _ _ => 0
  | .bad _ c => c
theorem PLU.of {r : ResL} {w : World} {E : Ending} {w' : World} (h : PostPL w r E w') : PLU (resL r) (resLI r) (resLC r) w E w' := by
  cases r with
  | bad j c =>
    obtain ⟨h1, h2⟩ := h
    exact ⟨none, 0, h1, S3.ER.nil none 0, h2⟩
  | ok es n =>
    obtain ⟨A, c, h1, h2, h3⟩ := h
    exact ⟨A, c, h1, er_in h2 (Nat.le_refl _), h3⟩
/-- What all four readings give. -/
theorem reads_all (l : TL) (hll : l.length ≤ 200) (at_ d : Int) (hd : d ≤ 9223372036854775807) : ∃ (e : Ex) (i c : Int) (es : List Ex) (m g : Int), (e = zE ∨ S3.exB e = true) ∧ (∀ x ∈ es, S3.exB x = true) ∧
    (∀ W A k, TokL W W.heap.size (.slice A l.length k) l → GlobE W → Calls Tryz.prog 11 #[.slice A l.length k, .int .i64 at_, .int .i64 d] W (PU e i c W)) ∧
    (∀ W A k, TokL W W.heap.size (.slice A l.length k) l → Calls Tryz.prog 12 #[.slice A l.length k, .int .i64 at_, .int .i64 d] W (PU e i c W)) ∧
    (∀ W A k, TokL W W.heap.size (.slice A l.length k) l → GlobE W → Calls Tryz.prog 14 #[.slice A l.length k, .int .i64 at_, .int .i64 d] W (PLU es m g W)) ∧
    (∀ W A k, TokL W W.heap.size (.slice A l.length k) l → Calls Tryz.prog 15 #[.slice A l.length k, .int .i64 at_, .int .i64 d] W (PLU es m g W)) := by
  by_cases h : at_ < 0 ∨ (l.length : Int) < at_ ∨ d < 0
  · refine ⟨zE, 0, 3, [], 0, 3, .inl rfl, (fun x hx => by cases hx), fun W A k _ _ => ?_, fun W A k _ => ?_, fun W A k _ _ => ?_, fun W A k _ => ?_⟩
    · exact (parse_range at_ d h).mono fun E w' hx => ⟨none, 0, 0, hx.1, zE_ok, S3.ER.nil none 0, hx.2⟩
    · exact (rparse_range at_ d h).mono fun E w' hx => ⟨none, 0, 0, hx.1, zE_ok, S3.ER.nil none 0, hx.2⟩
    · exact (list_range at_ d h).mono fun E w' hx => ⟨none, 0, hx.1, S3.ER.nil none 0, hx.2⟩
    · exact (rlst_range at_ d h).mono fun E w' hx => ⟨none, 0, hx.1, S3.ER.nil none 0, hx.2⟩
  · obtain ⟨i, rfl⟩ := Int.eq_ofNat_of_zero_le (show 0 ≤ at_ by omega)
    obtain ⟨n, rfl⟩ := Int.eq_ofNat_of_zero_le (show 0 ≤ d by omega)
    have hi : i ≤ l.length := by omega
    have hn : n ≤ 9223372036854775807 := by omega
    have h6 : l.length ≤ 1000000 := by omega
    refine ⟨resE (parseR l i n), resI (parseR l i n), resC (parseR l i n), resL (listR l i n), resLI (listR l i n), resLC (listR l i n), ?_, ?_, fun W A k hT hG => ?_, fun W A k hT => ?_, fun W A k hT hG => ?_, fun W A k hT => ?_⟩
    · have := gd_parse l i n
      cases hr : parseR l i n with
      | bad j c => exact .inl rfl
      | ok e q => rw [hr] at this; exact .inr this
    · have := gd_list l i n
      cases hr : listR l i n with
      | bad j c => intro x hx; cases hx
      | ok es q => rw [hr] at this; exact this
    · exact (parse_calls hT hG hi hn).mono fun E w' hx => PU.of hx
    · exact (rparse_calls hT h6 i n hi hn).mono fun E w' hx => PU.of hx
    · exact (list_calls hT hG hi hn h6).mono fun E w' hx => PLU.of hx
    · exact (rlst_calls hT h6 i n hi hn).mono fun E w' hx => PLU.of hx
set_option maxRecDepth 100000 in
set_option maxHeartbeats 8000000 in
theorem reads_law (hWk : WorksR) (l : TL) (A : Option Addr) (c : Nat) (at_ d : Int) (hd : d ≤ 9223372036854775807) (w : World) (hT : TokL w w.heap.size (.slice A l.length c) l) (hG : GlobA w) :
    Calls Tryz.prog 3 #[.slice A l.length c, .int .i64 at_, .int .i64 d] w fun e w' => e = .returned (.bool true) ∧ Below w.heap.size w w' := by
  have HWk := Lib.hid hWk
  have HG := Lib.hid hG
  by_cases hbig : 200 < l.length
  · have hbig' : (200 : Int) < (l.length : Int) := by omega
    clear hWk hG hT
    go_enter Tryz.func3, Tryz.ntmps3
    try simp only [List.append_eq, List.cons_append, List.nil_append]
    go_wp2_with fail
    refine (HWk.out _ HG.out).mono ?_
    rintro E w1 ⟨rfl, hb⟩
    have HB1 := Lib.hid hb
    clear hb
    go_wp2_with fail
    go_ret
    exact ⟨rfl, HB1.out⟩
  have hbig' : ¬ (200 : Int) < (l.length : Int) := by omega
  obtain ⟨e, i, c9, es, m, g, hgd, hgl, C1, C2, C3, C4⟩ := reads_all l (by omega) at_ d hd
  obtain ⟨V, hAt, hCl⟩ := clone_at hT (by omega)
  have htx : ∀ (j : Nat) t, l[j]? = some t → t.2.length ≤ 9223372036854775807 := fun j t hj => by obtain ⟨_, _, _, _, h⟩ := hT; exact (h j t hj).1
  have HTX := Lib.hid htx
  have HT := Lib.hid hT
  have HAt := Lib.hid hAt
  have HCl := Lib.hid hCl
  have HC1 := Lib.hid C1
  have HC2 := Lib.hid C2
  have HC3 := Lib.hid C3
  have HC4 := Lib.hid C4
  have HGd := Lib.hid hgd
  have HGl := Lib.hid hgl
  have hl200 : l.length ≤ 200 := by omega
  have HR := Lib.hid (fun W (hT : TokL W W.heap.size (.slice A l.length c) l) => refs_calls hT (by omega : l.length ≤ 1000000))
  clear hWk hG hT hgd hgl C1 C2 C3 C4 hAt hCl htx
  go_enter Tryz.func3, Tryz.ntmps3
  try simp only [List.append_eq, List.cons_append, List.nil_append]
  go_wp2_with fail
  refine HCl.out.mono ?_
  rintro E w1 ⟨A1, c1, rfl, hAt1, hb⟩
  have HB1 := Lib.hid hb
  have HA1 := Lib.hid hAt1
  clear hb hAt1 HCl
  go_wp2_with fail
  refine (HC1.out w1 A1 c1 (HA1.out.tok (by omega) HTX.out) (HG.out.up HB1.out).e).mono ?_
  rintro E w2 ⟨Aa, ka, ca, rfl, hok, hE, hb⟩
  have hb2 := S3.bal w2 (S3.eO e (.slice Aa ka ca))
  have HB2 := Lib.hid (after (after HB1.out hb) hb2)
  have HA2 := Lib.hid ((HA1.out.bel (after hb hb2)).mono (after hb hb2).size)
  have HX2 := Lib.hid (S3.EBox.new w2 e (.slice Aa ka ca))
  have HE2 := Lib.hid (hE.up hb2)
  have HO := Lib.hid hok
  have hp2 : w2.heap.size < (w2.alloc (S3.eO e (.slice Aa ka ca))).heap.size := by rw [S3.sz1]; omega
  clear hb hb2 hok hE HC1 HA1
  generalize hpa : w2.heap.size = pa at *
  go_wp2_with fail
  generalize w2.alloc (S3.eO e (.slice Aa ka ca)) = u2 at *
  refine (HR.out u2 (tokU HT.out HB2.out)).mono ?_
  rintro E w3 ⟨A3, c3, rfl, hT3, hb⟩
  have HB3 := Lib.hid (after HB2.out hb)
  have HA3 := Lib.hid ((HA2.out.bel hb).mono hb.size)
  have HX3 := Lib.hid (HX2.out.keep hb hp2)
  have HE3 := Lib.hid (HE2.out.up hb)
  have HT3 := Lib.hid hT3
  have hp3 : pa < w3.heap.size := Nat.lt_of_lt_of_le hp2 hb.size
  clear hb hT3 HA2 HX2 HE2
  go_wp2_with fail
  refine (HC2.out w3 A3 c3 HT3.out).mono ?_
  rintro E w4 ⟨Ab, kb, cb, rfl, _, hE, hb⟩
  have hb2 := S3.bal w4 (S3.eO e (.slice Ab kb cb))
  have HB4 := Lib.hid (after (after HB3.out hb) hb2)
  have HA4 := Lib.hid ((HA3.out.bel (after hb hb2)).mono (after hb hb2).size)
  have HX4 := Lib.hid (HX3.out.keep (after hb hb2) hp3)
  have HE4 := Lib.hid (HE3.out.up (after hb hb2))
  have HY4 := Lib.hid (S3.EBox.new w4 e (.slice Ab kb cb))
  have HF4 := Lib.hid (hE.up hb2)
  have hq4 : w4.heap.size < (w4.alloc (S3.eO e (.slice Ab kb cb))).heap.size := by rw [S3.sz1]; omega
  have hp4 : pa < (w4.alloc (S3.eO e (.slice Ab kb cb))).heap.size := Nat.lt_of_lt_of_le hp3 (after hb hb2).size
  clear hb hb2 hE HC2 HA3 HX3 HE3 HT3 HB3 HB2
  generalize hpb : w4.heap.size = pb at *
  go_wp2_with fail
  generalize w4.alloc (S3.eO e (.slice Ab kb cb)) = u4 at *
  refine (HC3.out u4 A1 c1 (HA4.out.tok (by omega) HTX.out) (HG.out.up HB4.out).e).mono ?_
  rintro E w5 ⟨Ax, cx, rfl, hx, hb⟩
  have HB5 := Lib.hid (after HB4.out hb)
  have HA5 := Lib.hid ((HA4.out.bel hb).mono hb.size)
  have HX5 := Lib.hid (HX4.out.keep hb hp4)
  have HE5 := Lib.hid (HE4.out.up hb)
  have HY5 := Lib.hid (HY4.out.keep hb hq4)
  have HF5 := Lib.hid (HF4.out.up hb)
  have HL5 := Lib.hid hx
  have hp5 : pa < w5.heap.size := Nat.lt_of_lt_of_le hp4 hb.size
  have hq5 : pb < w5.heap.size := Nat.lt_of_lt_of_le hq4 hb.size
  clear hb hx HC3 HA4 HX4 HE4 HY4 HF4 HB4
  go_wp2_with fail
  refine (HR.out w5 (tokU HT.out HB5.out)).mono ?_
  rintro E w6 ⟨A6, c6, rfl, hT6, hb⟩
  have HB6 := Lib.hid (after HB5.out hb)
  have HA6 := Lib.hid ((HA5.out.bel hb).mono hb.size)
  have HX6 := Lib.hid (HX5.out.keep hb hp5)
  have HE6 := Lib.hid (HE5.out.up hb)
  have HY6 := Lib.hid (HY5.out.keep hb hq5)
  have HF6 := Lib.hid (HF5.out.up hb)
  have HL6 := Lib.hid (HL5.out.up hb)
  have HT6 := Lib.hid hT6
  have hp6 : pa < w6.heap.size := Nat.lt_of_lt_of_le hp5 hb.size
  have hq6 : pb < w6.heap.size := Nat.lt_of_lt_of_le hq5 hb.size
  clear hb hT6 HA5 HX5 HE5 HY5 HF5 HL5 HB5
  go_wp2_with fail
  refine (HC4.out w6 A6 c6 HT6.out).mono ?_
  rintro E w7 ⟨Ay, cy, rfl, hy, hb⟩
  have HB7 := Lib.hid (after HB6.out hb)
  have HA7 := Lib.hid ((HA6.out.bel hb).mono hb.size)
  obtain ⟨x0, x1, x2, x3, x4⟩ := HX6.out.keep hb hp6
  have HE7 := Lib.hid (HE6.out.up hb)
  obtain ⟨y0, y1, y2, y3, y4⟩ := HY6.out.keep hb hq6
  have HF7 := Lib.hid (HF6.out.up hb)
  have HL7 := Lib.hid (HL6.out.up hb)
  have HM7 := Lib.hid hy
  have hp7 : pa < w7.heap.size := Nat.lt_of_lt_of_le hp6 hb.size
  have hq7 : pb < w7.heap.size := Nat.lt_of_lt_of_le hq6 hb.size
  have HO7 := Lib.hid ((HAt.out.bel HB7.out).mono HB7.out.size)
  clear hb hy HC4 HA6 HX6 HE6 HY6 HF6 HL6 HB6 HT6 HAt
  have qi : (i == i) = true := beq_self_eq_true _
  have qc : (c9 == c9) = true := beq_self_eq_true _
  have qm : (m == m) = true := beq_self_eq_true _
  have qg : (g == g) = true := beq_self_eq_true _
  clear hpa hpb
  go_wp2_with fail
  refine (lsame_good e HO.out HGd.out _ _ w7 HE7.out HF7.out (HG.out.up HB7.out).e.s).mono ?_
  rintro E2 wa ⟨rfl, hb⟩
  have HBa := Lib.hid (after HB7.out hb)
  have HCa := Lib.hid hb
  clear hb
  go_wp2_with fail
  refine (rsame_calls es HGl.out _ _ wa (HL7.out.up HCa.out) (HM7.out.up HCa.out)).mono ?_
  rintro E2 wb ⟨rfl, hb⟩
  have HBb := Lib.hid (after HBa.out hb)
  have HCb := Lib.hid (after HCa.out hb)
  clear hb
  go_wp2_with fail
  refine (equal_calls ((HA7.out.bel HCb.out).mono HCb.out.size) ((HO7.out.bel HCb.out).mono HCb.out.size) (by omega)).mono ?_
  rintro E2 wc ⟨rfl, hb⟩
  have HBc := Lib.hid (after HBb.out hb)
  clear hb
  go_wp2_with fail
  refine (HWk.out wc (HG.out.up HBc.out)).mono ?_
  rintro E2 wz ⟨rfl, hb⟩
  have HZ := Lib.hid (after HBc.out hb)
  clear hb
  go_wp2_with fail
  go_ret
  exact ⟨rfl, HZ.out⟩
end Go.Proofs.YtlhifbckmknijaaGreatDoor.E5
