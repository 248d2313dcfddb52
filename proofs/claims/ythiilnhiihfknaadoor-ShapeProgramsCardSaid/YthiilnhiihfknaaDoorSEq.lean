/-
  Equality of expressions: equalExprs, slices.EqualFunc at expressions, SameExpr: contracts.
-/
import Derived.Test.YthiilnhiihfknaaDoorSDepth
namespace Go.Proofs.YthiilnhiihfknaaDoor
open Go Go.RowKit

theorem take_eq_snoc {α : Type} {l m : List α} {k : Nat} (h : l.take k = m.take k) (hl : k < l.length) (hm : k < m.length) (he : l[k] = m[k]) : l.take (k + 1) = m.take (k + 1) := by
  rw [List.take_succ_eq_append_getElem hl, List.take_succ_eq_append_getElem hm, h, he]
theorem eqEs_no {la lb : List Ex} {k : Nat} (h1 : k < la.length) (h2 : k < lb.length) (h : eqE la[k] lb[k] = false) : eqEs la lb = false := by
  simp only [eqEs, eqE, decide_eq_false_iff_not] at h ⊢
  rintro rfl
  exact h rfl
theorem eqE_yes {a b : Ex} (h : eqE a b = true) : a = b := by simpa [eqE] using h
theorem eqEs_yes {la lb : List Ex} (hl : la.length = lb.length) (h : la.take la.length = lb.take la.length) : eqEs la lb = true := by
  rw [List.take_length, hl, List.take_length] at h
  simp [eqEs, h]
theorem eqEs_len {la lb : List Ex} (hl : la.length ≠ lb.length) : eqEs la lb = false := by
  simp only [eqEs, decide_eq_false_iff_not]
  rintro rfl
  exact hl rfl

/-- What equalExprs says of two expressions. -/
def EqC (x y : Ex) : Prop := ∀ (vx vy : Value) (w : World), OkE x → OkE y → EIn w w.heap.size x.args vx → EIn w w.heap.size y.args vy →
  Calls Tryd.prog 50 #[eV x vx, eV y vy] w fun r w' => r = .returned (.bool (eqE x y)) ∧ Below w.heap.size w w'

set_option maxHeartbeats 2000000 in
theorem eqFuncE_calls (la lb : List Ex) (h : ∀ x ∈ la, ∀ y, EqC x y) (va vb : Value) (w : World) (hA : EIn w w.heap.size la va) (hB : EIn w w.heap.size lb vb) :
    Calls Tryd.prog 76 #[va, vb, .func (.func 50) #[] #[]] w fun r w' => r = .returned (.bool (eqEs la lb)) ∧ Below w.heap.size w w' := by
  obtain ⟨A1, c1, rfl⟩ := hA.slice
  obtain ⟨A2, c2, rfl⟩ := hB.slice
  have l1 := hA.le
  have l2 := hB.le
  have HA := Lib.hid hA
  have HB := Lib.hid hB
  have H := Lib.hid h
  clear hA hB h
  by_cases hl : la.length = lb.length
  · have hl' : ((la.length : Int) != (lb.length : Int)) = false := by simp [hl]
    have HL := Lib.hid hl
    have hle : la.length ≤ lb.length := by omega
    clear hl
    go_enter Tryd.func76, Tryd.ntmps76
    go_wp2_with fail
    go_loopw [17] (fun i wr => ∃ n : Nat, n ≤ la.length ∧ i = .int .i64 n ∧ la.take n = lb.take n ∧ Below w.heap.size w wr) (fun i _ => la.length - (intOf i).toNat)
    case atStart => exact ⟨0, by omega, rfl, by simp, Below.refl _ _⟩
    case round =>
      obtain ⟨n, hn, rfl, ht, hbw⟩ := hrel
      have HT := Lib.hid ht
      have HW := Lib.hid hbw
      clear ht hbw
      by_cases hlt : n < la.length
      · have hlt2 : n < lb.length := by omega
        obtain ⟨b, o, v', hA, hbl, hoe, hc, hsub⟩ := (HA.out.at_).2 n hlt
        obtain ⟨a0, a1, a2, a3, a4⟩ := hc.keep (fun i => HW.out.cell (p := ⟨b, i, none⟩) hbl)
        obtain ⟨A', c', rfl⟩ := hsub.slice
        have HS := Lib.hid hsub
        subst hA
        clear hsub hc
        obtain ⟨b2, o2, v2, hA2, hbl2, hoe2, hc2, hsub2⟩ := (HB.out.at_).2 n hlt2
        obtain ⟨b0, b1, b2', b3, b4⟩ := hc2.keep (fun i => HW.out.cell (p := ⟨b2, i, none⟩) hbl2)
        obtain ⟨A3, c3, rfl⟩ := hsub2.slice
        have HS2 := Lib.hid hsub2
        subst hA2
        clear hsub2 hc2
        have hz := HW.out.size
        have hz1 : b2 < wr.heap.size := by omega
        have hC := H.out _ (List.getElem_mem hlt) lb[n]
        have HY := Lib.hid (fun h : eqE la[n] lb[n] = true => take_eq_snoc HT.out hlt hlt2 (eqE_yes h))
        have HN := Lib.hid (fun h : eqE la[n] lb[n] = false => eqEs_no hlt hlt2 h)
        generalize la[n] = x at *
        generalize lb[n] = y at *
        have HC := Lib.hid hC
        clear hC
        have hbb : ∀ o1 o2, Below w.heap.size w ((wr.alloc o1).alloc o2) := fun o1 o2 => (HW.out.alloc hz _).alloc (by simp; omega) _
        have HBB := Lib.hid hbb
        clear hbb
        cases he : eqE x y with
        | true =>
          have HE := Lib.hid he
          clear he
          go_wp2_with fail
          refine (HC.out _ _ _ hoe hoe2 (HS.out.keep (by simp; omega) fun q i hq => (HBB.out _ _).cell (p := ⟨q, i, none⟩) hq) (HS2.out.keep (by simp; omega) fun q i hq => (HBB.out _ _).cell (p := ⟨q, i, none⟩) hq)).mono ?_
          rintro x' w2 ⟨rfl, hb⟩
          have HB2 := Lib.hid (after (HBB.out _ _) hb)
          clear hb
          rw [HE.out]
          go_wp2_with fail
          go_roundw
          case rel => exact ⟨n + 1, by omega, by go_num, HY.out HE.out, HB2.out⟩
          case measure => simp [intOf]; omega
        | false =>
          have HE := Lib.hid he
          clear he
          go_wp2_with fail
          refine (HC.out _ _ _ hoe hoe2 (HS.out.keep (by simp; omega) fun q i hq => (HBB.out _ _).cell (p := ⟨q, i, none⟩) hq) (HS2.out.keep (by simp; omega) fun q i hq => (HBB.out _ _).cell (p := ⟨q, i, none⟩) hq)).mono ?_
          rintro x' w2 ⟨rfl, hb⟩
          have HB2 := Lib.hid (after (HBB.out _ _) hb)
          clear hb
          rw [HE.out]
          go_wp2_with fail
          go_ret
          exact ⟨by rw [HN.out HE.out]; rfl, HB2.out⟩
      · obtain rfl : n = la.length := by omega
        go_wp2_with fail
        go_ret
        exact ⟨by rw [eqEs_yes HL.out HT.out]; rfl, HW.out⟩
  · have hl' : ((la.length : Int) != (lb.length : Int)) = true := by simp; omega
    have HL := Lib.hid hl
    clear hl
    go_enter Tryd.func76, Tryd.ntmps76
    go_wp2_with fail
    go_ret
    exact ⟨by rw [eqEs_len HL.out]; rfl, Below.refl _ _⟩

set_option maxHeartbeats 2000000 in
theorem equalExprs_step (ka oa ma : Int) (na : Bytes) (la : List Ex) (kb ob mb : Int) (nb : Bytes) (lb : List Ex)
    (hf : ∀ (va vb : Value) (w : World), EIn w w.heap.size la va → EIn w w.heap.size lb vb → Calls Tryd.prog 76 #[va, vb, .func (.func 50) #[] #[]] w fun r w' => r = .returned (.bool (eqEs la lb)) ∧ Below w.heap.size w w') :
    EqC ⟨ka, oa, ma, na, la⟩ ⟨kb, ob, mb, nb, lb⟩ := by
  intro va vb w _ _ hE1 hE2
  obtain ⟨A1, c1, rfl⟩ := hE1.slice
  obtain ⟨A2, c2, rfl⟩ := hE2.slice
  have HE1 := Lib.hid hE1
  have HE2 := Lib.hid hE2
  clear hE1 hE2
  have H2 := Lib.hid (fun (o1 o2 : Obj) => ((Below.refl _ w).alloc (Nat.le_refl _) o1).alloc (by simp) o2)
  by_cases h0 : ka = kb
  · subst h0
    by_cases h1 : oa = ob
    · subst h1
      by_cases h2 : ma = mb
      · subst h2
        by_cases h3 : na = nb
        · subst h3
          have F := Lib.hid (show eqE ⟨ka, oa, ma, na, la⟩ ⟨ka, oa, ma, na, lb⟩ = eqEs la lb by simp [eqE, eqEs])
          go_enter Tryd.func50, Tryd.ntmps50
          go_wp2_with fail
          refine (hf _ _ _ (HE1.out.keep (by simp; omega) fun q i hq => (H2.out _ _).cell (p := ⟨q, i, none⟩) hq) (HE2.out.keep (by simp; omega) fun q i hq => (H2.out _ _).cell (p := ⟨q, i, none⟩) hq)).mono ?_
          rintro x' w2 ⟨rfl, hb⟩
          have HB2 := Lib.hid (after (H2.out _ _) hb)
          clear hb
          go_wp2_with fail
          go_ret
          exact ⟨by rw [F.out]; rfl, HB2.out⟩
        · have h3' : (na == nb) = false := by simpa using h3
          have g3' : (na != nb) = true := by simpa using h3
          have F := Lib.hid (show eqE ⟨ka, oa, ma, na, la⟩ ⟨ka, oa, ma, nb, lb⟩ = false by simp [eqE, h3])
          clear h3
          go_enter Tryd.func50, Tryd.ntmps50
          go_wp2_with fail
          go_ret
          exact ⟨by rw [F.out]; rfl, H2.out _ _⟩
      · have h2' : (ma == mb) = false := by simpa using h2
        have g2' : (ma != mb) = true := by simpa using h2
        have F := Lib.hid (show eqE ⟨ka, oa, ma, na, la⟩ ⟨ka, oa, mb, nb, lb⟩ = false by simp [eqE, h2])
        clear h2
        go_enter Tryd.func50, Tryd.ntmps50
        go_wp2_with fail
        go_ret
        exact ⟨by rw [F.out]; rfl, H2.out _ _⟩
    · have h1' : (oa == ob) = false := by simpa using h1
      have g1' : (oa != ob) = true := by simpa using h1
      have F := Lib.hid (show eqE ⟨ka, oa, ma, na, la⟩ ⟨ka, ob, mb, nb, lb⟩ = false by simp [eqE, h1])
      clear h1
      go_enter Tryd.func50, Tryd.ntmps50
      go_wp2_with fail
      go_ret
      exact ⟨by rw [F.out]; rfl, H2.out _ _⟩
  · have h0' : (ka == kb) = false := by simpa using h0
    have g0' : (ka != kb) = true := by simpa using h0
    have F := Lib.hid (show eqE ⟨ka, oa, ma, na, la⟩ ⟨kb, ob, mb, nb, lb⟩ = false by simp [eqE, h0])
    clear h0
    go_enter Tryd.func50, Tryd.ntmps50
    go_wp2_with fail
    go_ret
    exact ⟨by rw [F.out]; rfl, H2.out _ _⟩

theorem equalExprs_all (n : Nat) : ∀ a : Ex, SizeOf.sizeOf a < n → ∀ b, EqC a b := by
  induction n with
  | zero => intro a h; omega
  | succ n ih =>
    intro a ha b
    obtain ⟨ka, oa, ma, na, la⟩ := a
    obtain ⟨kb, ob, mb, nb, lb⟩ := b
    refine equalExprs_step ka oa ma na la kb ob mb nb lb fun va vb w h1 h2 => eqFuncE_calls la lb (fun x hx y => ih x ?_ y) va vb w h1 h2
    have := List.sizeOf_lt_of_mem hx
    simp at ha
    omega
theorem equalExprs_calls (a b : Ex) : EqC a b := equalExprs_all (SizeOf.sizeOf a + 1) a (by omega) b
theorem equalFuncE_calls (la lb : List Ex) (va vb : Value) (w : World) (hA : EIn w w.heap.size la va) (hB : EIn w w.heap.size lb vb) :
    Calls Tryd.prog 76 #[va, vb, .func (.func 50) #[] #[]] w fun r w' => r = .returned (.bool (eqEs la lb)) ∧ Below w.heap.size w w' :=
  eqFuncE_calls la lb (fun x _ y => equalExprs_calls x y) va vb w hA hB

set_option maxHeartbeats 2000000 in
theorem sameExpr_calls (a b : Ex) (ha : OkE a) (hb : OkE b) (va vb : Value) (w : World) (hE1 : EIn w w.heap.size a.args va) (hE2 : EIn w w.heap.size b.args vb) (hG : Glob w) :
    Calls Tryd.prog 19 #[eV a va, eV b vb] w fun r w' => r = .returned (.bool (sameE a b)) ∧ Below w.heap.size w w' := by
  obtain ⟨A1, c1, rfl⟩ := hE1.slice
  obtain ⟨A2, c2, rfl⟩ := hE2.slice
  have HE1 := Lib.hid hE1
  have HE2 := Lib.hid hE2
  have HG := Lib.hid hG
  have HX1 := Lib.hid ((EBox.new w a (.slice A1 a.args.length c1)).keep (bal _ (eO b (.slice A2 b.args.length c2))) (by simp))
  have HX2 := Lib.hid (EBox.new (w.alloc (eO a (.slice A1 a.args.length c1))) b (.slice A2 b.args.length c2))
  clear hE1 hE2 hG
  by_cases h1 : dep 20 a = 0
  · have F := Lib.hid (show sameE a b = false by simp [sameE, exB, h1])
    go_enter Tryd.func19, Tryd.ntmps19
    go_wp2_with fail
    refine (depth_calls a ha _ _ ((HE1.out.al _).al _) ((HG.out.al _).al _)).mono ?_
    rintro x' w2 ⟨rfl, hb⟩
    have HB2 := Lib.hid (after (bal2 _ _ _) hb)
    clear hb
    rw [h1]
    go_wp2_with fail
    go_ret
    exact ⟨by rw [F.out]; rfl, HB2.out⟩
  · have h1' : (((dep 20 a : Nat) : Int) != 0) = true := by simpa using h1
    have H1 := Lib.hid h1
    clear h1
    have hs1 : w.heap.size + 1 < w.heap.size + 2 := by omega
    by_cases h2 : dep 20 b = 0
    · have F := Lib.hid (show sameE a b = false by simp [sameE, exB, h2])
      go_enter Tryd.func19, Tryd.ntmps19
      go_wp2_with fail
      refine (depth_calls a ha _ _ ((HE1.out.al _).al _) ((HG.out.al _).al _)).mono ?_
      rintro x' w2 ⟨rfl, hb'⟩
      have HB2 := Lib.hid (after (bal2 _ _ _) hb')
      obtain ⟨d0, d1, d2, d3, d4⟩ := HX2.out.keep hb' (by simp)
      simp only [sz1] at d0 d1 d2 d3 d4
      clear hb'
      go_wp2_with fail
      refine (depth_calls b hb _ _ (HE2.out.up HB2.out) (HG.out.up HB2.out)).mono ?_
      rintro x' w3 ⟨rfl, hb'⟩
      have HB3 := Lib.hid (after HB2.out hb')
      clear hb'
      rw [h2]
      go_wp2_with fail
      go_ret
      exact ⟨by rw [F.out]; rfl, HB3.out⟩
    · have h2' : (((dep 20 b : Nat) : Int) != 0) = true := by simpa using h2
      have F := Lib.hid (show sameE a b = eqE a b by simp [sameE, exB, H1.out, h2])
      clear h2
      go_enter Tryd.func19, Tryd.ntmps19
      go_wp2_with fail
      refine (depth_calls a ha _ _ ((HE1.out.al _).al _) ((HG.out.al _).al _)).mono ?_
      rintro x' w2 ⟨rfl, hb'⟩
      have HB2 := Lib.hid (after (bal2 _ _ _) hb')
      have HX1 := Lib.hid (HX1.out.keep hb' (by simp; omega))
      have X2 := HX2.out.keep hb' (by simp)
      have hz : w.heap.size + 2 ≤ w2.heap.size := by have := hb'.size; simpa using this
      simp only [sz1] at X2
      have HX2 := Lib.hid X2
      obtain ⟨d0, d1, d2, d3, d4⟩ := X2
      clear hb'
      go_wp2_with fail
      refine (depth_calls b hb _ _ (HE2.out.up HB2.out) (HG.out.up HB2.out)).mono ?_
      rintro x' w3 ⟨rfl, hb'⟩
      have HB3 := Lib.hid (after HB2.out hb')
      obtain ⟨e0, e1, e2, e3, e4⟩ := HX1.out.keep hb' (by omega)
      obtain ⟨f0, f1, f2, f3, f4⟩ := HX2.out.keep hb' (by omega)
      clear hb' d0 d1 d2 d3 d4
      go_wp2_with fail
      refine (equalExprs_calls a b _ _ _ ha hb (HE1.out.up HB3.out) (HE2.out.up HB3.out)).mono ?_
      rintro x' w4 ⟨rfl, hb'⟩
      have HB4 := Lib.hid (after HB3.out hb')
      clear hb'
      go_wp2_with fail
      go_ret
      exact ⟨by rw [F.out]; rfl, HB4.out⟩
end Go.Proofs.YthiilnhiihfknaaDoor
