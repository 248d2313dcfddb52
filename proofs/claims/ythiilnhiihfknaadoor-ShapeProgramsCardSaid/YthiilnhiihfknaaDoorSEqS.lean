/-
  Equality of statements: equalStmts, slices.EqualFunc at statements: contracts. Written by gen3_eqs.py.
-/
import Derived.Test.YthiilnhiihfknaaDoorSEq
import Derived.Test.YthiilnhiihfknaaDoorSMm
namespace Go.Proofs.YthiilnhiihfknaaDoor
open Go Go.RowKit

/-! ### statements without their numbers -/
mutual
def erS : St → St
  | ⟨k, _, n, t, c, a, b, e⟩ => ⟨k, 0, n, t, c, a, erL b, erL e⟩
def erL : List St → List St
  | [] => []
  | s :: l => erS s :: erL l
end
theorem erL_map (l : List St) : erL l = l.map erS := by
  induction l with
  | nil => rw [erL]; rfl
  | cons s l ih => rw [erL, ih]; rfl
theorem erS_eq (s : St) : erS s = ⟨s.kind, 0, s.name, s.typ, s.callee, s.args, s.body.map erS, s.els.map erS⟩ := by
  obtain ⟨_, _, _, _, _, _, _, _⟩ := s
  rw [erS, erL_map, erL_map]
open Classical in
noncomputable def eqSt (a b : St) : Bool := decide (erS a = erS b)
open Classical in
noncomputable def eqSl (a b : List St) : Bool := decide (a.map erS = b.map erS)
theorem eqSt_yes {a b : St} (h : eqSt a b = true) : erS a = erS b := by simpa [eqSt] using h
theorem eqSt_not {a b : St} (h : erS a ≠ erS b) : eqSt a b = false := by simpa [eqSt] using h
theorem eqSl_of {a b : List St} (h : a.map erS = b.map erS) : eqSl a b = true := by simpa [eqSl] using h
theorem eqEs_refl' (l : List Ex) : eqEs l l = true := by simp [eqEs]
section
variable {a b : St} (h : erS a = erS b)
include h
theorem erS_kind : a.kind = b.kind := by rw [erS_eq, erS_eq] at h; injection h
theorem erS_name : a.name = b.name := by rw [erS_eq, erS_eq] at h; injection h
theorem erS_typ : a.typ = b.typ := by rw [erS_eq, erS_eq] at h; injection h
theorem erS_callee : a.callee = b.callee := by rw [erS_eq, erS_eq] at h; injection h
theorem erS_args : a.args = b.args := by rw [erS_eq, erS_eq] at h; injection h
theorem erS_body : a.body.map erS = b.body.map erS := by rw [erS_eq, erS_eq] at h; injection h
theorem erS_els : a.els.map erS = b.els.map erS := by rw [erS_eq, erS_eq] at h; injection h
end
theorem eqSt_mk {a b : St} (h0 : a.kind = b.kind) (h1 : a.name = b.name) (h2 : a.typ = b.typ) (h3 : a.callee = b.callee) (h4 : eqEs a.args b.args = true) (h5 : eqSl a.body b.body = true) : eqSt a b = eqSl a.els b.els := by
  simp only [eqEs, decide_eq_true_eq] at h4
  simp only [eqSl, decide_eq_true_eq] at h5
  unfold eqSt eqSl
  rw [decide_eq_decide, erS_eq, erS_eq, h0, h1, h2, h3, h4, h5]
  simp
theorem take_er_snoc {l m : List St} {k : Nat} (h : (l.take k).map erS = (m.take k).map erS) (hl : k < l.length) (hm : k < m.length) (he : erS l[k] = erS m[k]) : (l.take (k + 1)).map erS = (m.take (k + 1)).map erS := by
  rw [List.take_succ_eq_append_getElem hl, List.take_succ_eq_append_getElem hm, List.map_append, List.map_append, h]
  simp [he]
theorem eqSl_no {la lb : List St} {k : Nat} (h1 : k < la.length) (h2 : k < lb.length) (h : eqSt la[k] lb[k] = false) : eqSl la lb = false := by
  simp only [eqSl, eqSt, decide_eq_false_iff_not] at h ⊢
  intro e
  apply h
  have := congrArg (fun l => l[k]?) e
  simpa [h1, h2] using this
theorem eqSl_yes {la lb : List St} (hl : la.length = lb.length) (h : (la.take la.length).map erS = (lb.take la.length).map erS) : eqSl la lb = true := by
  rw [List.take_length, hl, List.take_length] at h
  simp [eqSl, h]
theorem eqSl_len {la lb : List St} (hl : la.length ≠ lb.length) : eqSl la lb = false := by
  simp only [eqSl, decide_eq_false_iff_not]
  intro e
  exact hl (by simpa using congrArg List.length e)

/-- What equalStmts says of two statements. -/
def EqCS (x y : St) : Prop := ∀ (va vb ve ua ub ue : Value) (w : World), OkS x → OkS y → EIn w w.heap.size x.args va → SIn w w.heap.size x.body vb → SIn w w.heap.size x.els ve → EIn w w.heap.size y.args ua → SIn w w.heap.size y.body ub → SIn w w.heap.size y.els ue →
  Calls Tryd.prog 64 #[sV x va vb ve, sV y ua ub ue] w fun r w' => r = .returned (.bool (eqSt x y)) ∧ Below w.heap.size w w'

set_option maxHeartbeats 2000000 in
theorem eqFuncS_calls (la lb : List St) (h : ∀ x ∈ la, ∀ y, EqCS x y) (va vb : Value) (w : World) (hA : SIn w w.heap.size la va) (hB : SIn w w.heap.size lb vb) :
    Calls Tryd.prog 83 #[va, vb, .func (.func 64) #[] #[]] w fun r w' => r = .returned (.bool (eqSl la lb)) ∧ Below w.heap.size w w' := by
  obtain ⟨A1, c1, rfl⟩ := hA.slice
  obtain ⟨A2, c2, rfl⟩ := hB.slice
  have l1 := hA.le
  have l2 := hB.le
  have HA := Lib.hid hA
  have HB := Lib.hid hB
  have H := Lib.hid h
  clear hA hB h
  by_cases hl : la.length = lb.length
  · have hl' : ((la.length : Int) != (lb.length : Int)) = false := by simp [hl]
    have HL := Lib.hid hl
    have hle : la.length ≤ lb.length := by omega
    clear hl
    go_enter Tryd.func83, Tryd.ntmps83
    go_wp2_with fail
    go_loopw [17] (fun i wr => ∃ n : Nat, n ≤ la.length ∧ i = .int .i64 n ∧ (la.take n).map erS = (lb.take n).map erS ∧ Below w.heap.size w wr) (fun i _ => la.length - (intOf i).toNat)
    case atStart => exact ⟨0, by omega, rfl, by simp, Below.refl _ _⟩
    case round =>
      obtain ⟨n, hn, rfl, ht, hbw⟩ := hrel
      have HT := Lib.hid ht
      have HW := Lib.hid hbw
      clear ht hbw
      by_cases hlt : n < la.length
      · have hlt2 : n < lb.length := by omega
        obtain ⟨b, o, va, vb, ve, hA, hbl, hoe, hc, s1, s2, s3⟩ := (HA.out.at_).2 n hlt
        obtain ⟨a0, a1, a2, a3, a4, a5, a6, a7⟩ := hc.keep (fun i => HW.out.cell (p := ⟨b, i, none⟩) hbl)
        obtain ⟨A', c', rfl⟩ := s1.slice
        obtain ⟨A4, c4, rfl⟩ := s2.slice
        obtain ⟨A5, c5, rfl⟩ := s3.slice
        have HS1 := Lib.hid (EIn.up s1 HW.out)
        have HS2 := Lib.hid (SIn.up s2 HW.out)
        have HS3 := Lib.hid (SIn.up s3 HW.out)
        subst hA
        clear s1 s2 s3 hc
        obtain ⟨b2, o2, va2, vb2, ve2, hA2, hbl2, hoe2, hc2, s1, s2, s3⟩ := (HB.out.at_).2 n hlt2
        obtain ⟨b0, b1, b2', b3, b4, b5, b6, b7⟩ := hc2.keep (fun i => HW.out.cell (p := ⟨b2, i, none⟩) hbl2)
        obtain ⟨A6, c6, rfl⟩ := s1.slice
        obtain ⟨A7, c7, rfl⟩ := s2.slice
        obtain ⟨A8, c8, rfl⟩ := s3.slice
        have HS4 := Lib.hid (EIn.up s1 HW.out)
        have HS5 := Lib.hid (SIn.up s2 HW.out)
        have HS6 := Lib.hid (SIn.up s3 HW.out)
        subst hA2
        clear s1 s2 s3 hc2
        have hz := HW.out.size
        have hz1 : b2 < wr.heap.size := by omega
        have hC := H.out _ (List.getElem_mem hlt) lb[n]
        have HY := Lib.hid (fun h : eqSt la[n] lb[n] = true => take_er_snoc HT.out hlt hlt2 (eqSt_yes h))
        have HN := Lib.hid (fun h : eqSt la[n] lb[n] = false => eqSl_no hlt hlt2 h)
        generalize la[n] = x at *
        generalize lb[n] = y at *
        have HC := Lib.hid hC
        clear hC
        have hbb : ∀ o1 o2, Below w.heap.size w ((wr.alloc o1).alloc o2) := fun o1 o2 => (HW.out.alloc hz _).alloc (by simp; omega) _
        have HBB := Lib.hid hbb
        clear hbb
        cases he : eqSt x y with
        | true =>
          have HE := Lib.hid he
          clear he
          go_wp2_with fail
          refine (HC.out _ _ _ _ _ _ _ hoe hoe2 (HS1.out.up (bal2 _ _ _)) (HS2.out.up (bal2 _ _ _)) (HS3.out.up (bal2 _ _ _)) (HS4.out.up (bal2 _ _ _)) (HS5.out.up (bal2 _ _ _)) (HS6.out.up (bal2 _ _ _))).mono ?_
          rintro x' w2 ⟨rfl, hb⟩
          have HB2 := Lib.hid (after (HBB.out _ _) hb)
          clear hb
          rw [HE.out]
          go_wp2_with fail
          go_roundw
          case rel => exact ⟨n + 1, by omega, by go_num, HY.out HE.out, HB2.out⟩
          case measure => simp [intOf]; omega
        | false =>
          have HE := Lib.hid he
          clear he
          go_wp2_with fail
          refine (HC.out _ _ _ _ _ _ _ hoe hoe2 (HS1.out.up (bal2 _ _ _)) (HS2.out.up (bal2 _ _ _)) (HS3.out.up (bal2 _ _ _)) (HS4.out.up (bal2 _ _ _)) (HS5.out.up (bal2 _ _ _)) (HS6.out.up (bal2 _ _ _))).mono ?_
          rintro x' w2 ⟨rfl, hb⟩
          have HB2 := Lib.hid (after (HBB.out _ _) hb)
          clear hb
          rw [HE.out]
          go_wp2_with fail
          go_ret
          exact ⟨by rw [HN.out HE.out]; rfl, HB2.out⟩
      · obtain rfl : n = la.length := by omega
        go_wp2_with fail
        go_ret
        exact ⟨by rw [eqSl_yes HL.out HT.out]; rfl, HW.out⟩
  · have hl' : ((la.length : Int) != (lb.length : Int)) = true := by simp; omega
    have HL := Lib.hid hl
    clear hl
    go_enter Tryd.func83, Tryd.ntmps83
    go_wp2_with fail
    go_ret
    exact ⟨by rw [eqSl_len HL.out]; rfl, Below.refl _ _⟩

set_option maxRecDepth 100000 in
set_option maxHeartbeats 8000000 in
theorem equalStmts_step (x y : St)
    (hb' : ∀ (va vb : Value) (w : World), SIn w w.heap.size x.body va → SIn w w.heap.size y.body vb → Calls Tryd.prog 83 #[va, vb, .func (.func 64) #[] #[]] w fun r w' => r = .returned (.bool (eqSl x.body y.body)) ∧ Below w.heap.size w w')
    (he : ∀ (va vb : Value) (w : World), SIn w w.heap.size x.els va → SIn w w.heap.size y.els vb → Calls Tryd.prog 83 #[va, vb, .func (.func 64) #[] #[]] w fun r w' => r = .returned (.bool (eqSl x.els y.els)) ∧ Below w.heap.size w w') : EqCS x y := by
  intro va vb ve ua ub ue w _ _ hA1 hB1 hE1 hA2 hB2 hE2
  obtain ⟨A1, c1, rfl⟩ := hA1.slice
  obtain ⟨A2, c2, rfl⟩ := hB1.slice
  obtain ⟨A3, c3, rfl⟩ := hE1.slice
  obtain ⟨A4, c4, rfl⟩ := hA2.slice
  obtain ⟨A5, c5, rfl⟩ := hB2.slice
  obtain ⟨A6, c6, rfl⟩ := hE2.slice
  have HA1 := Lib.hid hA1
  have HB1 := Lib.hid hB1
  have HE1 := Lib.hid hE1
  have HA2 := Lib.hid hA2
  have HBB := Lib.hid hB2
  have HE2 := Lib.hid hE2
  have HX1 := Lib.hid ((SBox.new w x (.slice A1 x.args.length c1) (.slice A2 x.body.length c2) (.slice A3 x.els.length c3)).keep (bal _ (sO y (.slice A4 y.args.length c4) (.slice A5 y.body.length c5) (.slice A6 y.els.length c6))) (by simp))
  have HX2 := Lib.hid (SBox.new (w.alloc (sO x (.slice A1 x.args.length c1) (.slice A2 x.body.length c2) (.slice A3 x.els.length c3))) y (.slice A4 y.args.length c4) (.slice A5 y.body.length c5) (.slice A6 y.els.length c6))
  clear hA1 hB1 hE1 hA2 hB2 hE2
  by_cases h0 : x.kind = y.kind
  · have g0 : (x.kind == y.kind) = true := by simpa using h0
    by_cases h1 : x.name = y.name
    · have g1 : (x.name == y.name) = true := by simpa using h1
      by_cases h2 : x.typ = y.typ
      · have g2 : (x.typ == y.typ) = true := by simpa using h2
        by_cases h3 : x.callee = y.callee
        · have g3 : (x.callee == y.callee) = true := by simpa using h3
          cases h4 : eqEs x.args y.args with
          | false =>
            have H4 := Lib.hid h4
            have F := Lib.hid (show eqSt x y = false from eqSt_not fun h => by rw [erS_args h, eqEs_refl'] at h4; cases h4)
            clear h4
            go_enter Tryd.func64, Tryd.ntmps64
            go_wp2_with fail
            refine (equalFuncE_calls x.args y.args _ _ _ (HA1.out.up (bal2 _ _ _)) (HA2.out.up (bal2 _ _ _))).mono ?_
            rintro e w2 ⟨rfl, hb⟩
            have HB2 := Lib.hid (after (bal2 _ _ _) hb)
            clear hb
            rw [H4.out]
            go_wp2_with fail
            go_ret
            exact ⟨by rw [F.out]; rfl, HB2.out⟩
          | true =>
            have H4 := Lib.hid h4
            clear h4
            cases h5 : eqSl x.body y.body with
            | false =>
              have H5 := Lib.hid h5
              have F := Lib.hid (show eqSt x y = false from eqSt_not fun h => by rw [eqSl_of (erS_body h)] at h5; cases h5)
              clear h5
              clear h0 h1 h2 h3
              go_enter Tryd.func64, Tryd.ntmps64
              go_wp2_with fail
              refine (equalFuncE_calls x.args y.args _ _ _ (HA1.out.up (bal2 _ _ _)) (HA2.out.up (bal2 _ _ _))).mono ?_
              rintro e w2 ⟨rfl, hb⟩
              have HB2 := Lib.hid (after (bal2 _ _ _) hb)
              have X1 := HX1.out.keep hb (by simp; omega)
              have X2 := HX2.out.keep hb (by simp)
              rw [sz1] at X2
              have hz : w.heap.size + 2 ≤ w2.heap.size := by have := hb.size; simpa using this
              have hz1 : w.heap.size + 1 < w2.heap.size := by omega
              have HY1 := Lib.hid X1
              have HY2 := Lib.hid X2
              have p6 := X1.c6
              have r6 := X2.c6
              clear hb X1 X2
              rw [H4.out]
              go_wp2_with fail
              refine (hb' _ _ _ (HB1.out.up HB2.out) (HBB.out.up HB2.out)).mono ?_
              rintro e w3 ⟨rfl, hb⟩
              have HB3 := Lib.hid (after HB2.out hb)
              have p7 := (HY1.out.keep hb (by omega)).c7
              have r7 := (HY2.out.keep hb (by omega)).c7
              clear hb p6 r6
              rw [H5.out]
              go_wp2_with fail
              go_ret
              exact ⟨by rw [F.out]; rfl, HB3.out⟩
            | true =>
              have H5 := Lib.hid h5
              have F := Lib.hid (show eqSt x y = eqSl x.els y.els from eqSt_mk h0 h1 h2 h3 H4.out h5)
              clear h5
              clear h0 h1 h2 h3
              go_enter Tryd.func64, Tryd.ntmps64
              go_wp2_with fail
              refine (equalFuncE_calls x.args y.args _ _ _ (HA1.out.up (bal2 _ _ _)) (HA2.out.up (bal2 _ _ _))).mono ?_
              rintro e w2 ⟨rfl, hb⟩
              have HB2 := Lib.hid (after (bal2 _ _ _) hb)
              have X1 := HX1.out.keep hb (by simp; omega)
              have X2 := HX2.out.keep hb (by simp)
              rw [sz1] at X2
              have hz : w.heap.size + 2 ≤ w2.heap.size := by have := hb.size; simpa using this
              have hz1 : w.heap.size + 1 < w2.heap.size := by omega
              have HY1 := Lib.hid X1
              have HY2 := Lib.hid X2
              have p6 := X1.c6
              have r6 := X2.c6
              clear hb X1 X2
              rw [H4.out]
              go_wp2_with fail
              refine (hb' _ _ _ (HB1.out.up HB2.out) (HBB.out.up HB2.out)).mono ?_
              rintro e w3 ⟨rfl, hb⟩
              have HB3 := Lib.hid (after HB2.out hb)
              have p7 := (HY1.out.keep hb (by omega)).c7
              have r7 := (HY2.out.keep hb (by omega)).c7
              clear hb p6 r6
              rw [H5.out]
              go_wp2_with fail
              refine (he _ _ _ (HE1.out.up HB3.out) (HE2.out.up HB3.out)).mono ?_
              rintro e w4 ⟨rfl, hb⟩
              have HB4 := Lib.hid (after HB3.out hb)
              clear hb
              go_wp2_with fail
              go_ret
              exact ⟨by rw [F.out]; rfl, HB4.out⟩
        · have g3 : (x.callee == y.callee) = false := by simpa using h3
          have F := Lib.hid (show eqSt x y = false from eqSt_not fun h => h3 (erS_callee h))
          clear h0 h1 h2 h3
          go_enter Tryd.func64, Tryd.ntmps64
          go_wp2_with fail
          go_ret
          exact ⟨by rw [F.out]; rfl, bal2 _ _ _⟩
      · have g2 : (x.typ == y.typ) = false := by simpa using h2
        have F := Lib.hid (show eqSt x y = false from eqSt_not fun h => h2 (erS_typ h))
        clear h0 h1 h2
        go_enter Tryd.func64, Tryd.ntmps64
        go_wp2_with fail
        go_ret
        exact ⟨by rw [F.out]; rfl, bal2 _ _ _⟩
    · have g1 : (x.name == y.name) = false := by simpa using h1
      have F := Lib.hid (show eqSt x y = false from eqSt_not fun h => h1 (erS_name h))
      clear h0 h1
      go_enter Tryd.func64, Tryd.ntmps64
      go_wp2_with fail
      go_ret
      exact ⟨by rw [F.out]; rfl, bal2 _ _ _⟩
  · have g0 : (x.kind == y.kind) = false := by simpa using h0
    have F := Lib.hid (show eqSt x y = false from eqSt_not fun h => h0 (erS_kind h))
    clear h0
    go_enter Tryd.func64, Tryd.ntmps64
    go_wp2_with fail
    go_ret
    exact ⟨by rw [F.out]; rfl, bal2 _ _ _⟩

theorem equalStmts_all (n : Nat) : ∀ a : St, SizeOf.sizeOf a < n → ∀ b, EqCS a b := by
  induction n with
  | zero => intro a h; omega
  | succ n ih =>
    intro a ha b
    have key : ∀ l : List St, SizeOf.sizeOf l < SizeOf.sizeOf a → ∀ x ∈ l, SizeOf.sizeOf x < n := fun l hl x hx => by
      have := List.sizeOf_lt_of_mem hx
      omega
    have k1 : SizeOf.sizeOf a.body < SizeOf.sizeOf a := by cases a; simp; omega
    have k2 : SizeOf.sizeOf a.els < SizeOf.sizeOf a := by cases a; simp; omega
    exact equalStmts_step a b (fun va vb w h1 h2 => eqFuncS_calls a.body b.body (fun x hx y => ih x (key _ k1 x hx) y) va vb w h1 h2) (fun va vb w h1 h2 => eqFuncS_calls a.els b.els (fun x hx y => ih x (key _ k2 x hx) y) va vb w h1 h2)
theorem equalStmts_calls (a b : St) : EqCS a b := equalStmts_all (SizeOf.sizeOf a + 1) a (by omega) b
theorem equalFuncS_calls (la lb : List St) (va vb : Value) (w : World) (hA : SIn w w.heap.size la va) (hB : SIn w w.heap.size lb vb) :
    Calls Tryd.prog 83 #[va, vb, .func (.func 64) #[] #[]] w fun r w' => r = .returned (.bool (eqSl la lb)) ∧ Below w.heap.size w w' :=
  eqFuncS_calls la lb (fun x _ y => equalStmts_calls x y) va vb w hA hB
end Go.Proofs.YthiilnhiihfknaaDoor
