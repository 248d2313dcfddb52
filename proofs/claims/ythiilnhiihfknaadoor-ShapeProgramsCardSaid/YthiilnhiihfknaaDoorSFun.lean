/-
  Functions without their numbers; slices.Equal at parameters: contract.
  Equality of functions: slices.EqualFunc at functions, equalFuncs, SameFunc, Same: contracts.
-/
import Derived.Test.YthiilnhiihfknaaDoorSEqS
import Derived.Test.YthiilnhiihfknaaDoorSMm
import Derived.Lib.QuietBelow
import Derived.BigQuiet
import Derived.Test.YthiilnhiihfknaaDoorSCheck
namespace Go.Proofs.YthiilnhiihfknaaDoor
open Go Go.RowKit Go.Sort

/-- A function without its numbers. -/
def erF (f : Fn) : Fn := ⟨f.name, f.params, f.result, f.body.map erS, 0⟩
section
variable {a b : Fn} (h : erF a = erF b)
include h
theorem erF_name : a.name = b.name := by unfold erF at h; injection h
theorem erF_params : a.params = b.params := by unfold erF at h; injection h
theorem erF_result : a.result = b.result := by unfold erF at h; injection h
theorem erF_body : a.body.map erS = b.body.map erS := by unfold erF at h; injection h
end
open Classical in
noncomputable def eqFn (a b : Fn) : Bool := decide (erF a = erF b)
open Classical in
noncomputable def eqFl (a b : List Fn) : Bool := decide (a.map erF = b.map erF)
theorem eqFn_yes {a b : Fn} (h : eqFn a b = true) : erF a = erF b := by simpa [eqFn] using h
theorem eqFn_not {a b : Fn} (h : erF a ≠ erF b) : eqFn a b = false := by simpa [eqFn] using h
theorem eqPs_refl (l : List Pa) : eqPs l l = true := by simp [eqPs]
theorem eqPs_yes {a b : List Pa} (h : eqPs a b = true) : a = b := by simpa [eqPs] using h
theorem eqFn_mk {a b : Fn} (h0 : a.name = b.name) (h1 : a.result = b.result) (h2 : a.params = b.params) : eqFn a b = eqSl a.body b.body := by
  unfold eqFn eqSl
  rw [decide_eq_decide]
  unfold erF
  simp [h0, h1, h2]
theorem pa_eq {a b : Pa} (h0 : a.name = b.name) (h1 : a.typ = b.typ) : a = b := by cases a; cases b; simp at h0 h1; simp [h0, h1]
theorem eqPs_no {la lb : List Pa} {k : Nat} (h1 : k < la.length) (h2 : k < lb.length) (h : la[k] ≠ lb[k]) : eqPs la lb = false := by
  simp only [eqPs, decide_eq_false_iff_not]
  rintro rfl
  exact h rfl
theorem eqPs_full {la lb : List Pa} (hl : la.length = lb.length) (h : la.take la.length = lb.take la.length) : eqPs la lb = true := by
  rw [List.take_length, hl, List.take_length] at h
  simp [eqPs, h]
theorem eqPs_len {la lb : List Pa} (hl : la.length ≠ lb.length) : eqPs la lb = false := by
  simp only [eqPs, decide_eq_false_iff_not]
  rintro rfl
  exact hl rfl

set_option maxHeartbeats 4000000 in
theorem equalP_calls (la lb : List Pa) (va vb : Value) (w : World) (hA : PIn w w.heap.size la va) (hB : PIn w w.heap.size lb vb) :
    Calls Tryd.prog 82 #[va, vb] w fun r w' => r = .returned (.bool (eqPs la lb)) ∧ Below w.heap.size w w' := by
  obtain ⟨A1, c1, rfl⟩ := hA.slice
  obtain ⟨A2, c2, rfl⟩ := hB.slice
  have l1 := hA.le
  have l2 := hB.le
  have HA := Lib.hid hA
  have HB := Lib.hid hB
  clear hA hB
  by_cases hl : la.length = lb.length
  · have hl' : ((la.length : Int) != (lb.length : Int)) = false := by simp [hl]
    have HL := Lib.hid hl
    have hle : la.length ≤ lb.length := by omega
    clear hl
    go_enter Tryd.func82, Tryd.ntmps82
    go_wp2_with fail
    go_loopw [13] (fun i wr => ∃ n : Nat, n ≤ la.length ∧ i = .int .i64 n ∧ la.take n = lb.take n ∧ Below w.heap.size w wr) (fun i _ => la.length - (intOf i).toNat)
    case atStart => exact ⟨0, by omega, rfl, by simp, Below.refl _ _⟩
    case round =>
      obtain ⟨n, hn, rfl, ht, hbw⟩ := hrel
      have HT := Lib.hid ht
      have HW := Lib.hid hbw
      clear ht hbw
      by_cases hlt : n < la.length
      · have hlt2 : n < lb.length := by omega
        obtain ⟨b, o, hA, hbl, hoe, hc⟩ := HA.out.at_ n hlt
        obtain ⟨a0, a1⟩ := hc.keep (fun i => HW.out.cell (p := ⟨b, i, none⟩) hbl)
        subst hA
        clear hc
        obtain ⟨b2, o2, hA2, hbl2, hoe2, hc2⟩ := HB.out.at_ n hlt2
        obtain ⟨b0, b1⟩ := hc2.keep (fun i => HW.out.cell (p := ⟨b2, i, none⟩) hbl2)
        subst hA2
        clear hc2
        have hz := HW.out.size
        have hz1 : b2 < wr.heap.size := by omega
        have HY := Lib.hid (fun h : la[n] = lb[n] => take_eq_snoc HT.out hlt hlt2 h)
        have HN := Lib.hid (fun h : la[n] ≠ lb[n] => eqPs_no hlt hlt2 h)
        generalize la[n] = x at *
        generalize lb[n] = y at *
        have qa0 := fun d os => cell_regrown a0 d os
        have qa1 := fun d os => cell_regrown a1 d os
        have qb0 := fun d os => cell_regrown b0 d os
        have qb1 := fun d os => cell_regrown b1 d os
        clear a0 a1 b0 b1
        by_cases h0 : x.name = y.name
        · have g0 : (x.name != y.name) = false := by simpa using h0
          have g0b : (x.name == y.name) = true := by simpa using h0
          by_cases h1 : x.typ = y.typ
          · have g1 : (x.typ != y.typ) = false := by simpa using h1
            have g1b : (x.typ == y.typ) = true := by simpa using h1
            have HXY := Lib.hid (pa_eq h0 h1)
            clear h0 h1
            go_wp2_with fail
            refine wp_region_quiet_below (by kernel_rfl) (by kernel_rfl) ?_
            repeat (first | go_big_quiet_step (fail) | quiet_step (fail))
            refine wpQuiet_nil ?_
            intro _ hw'
            obtain ⟨⟨dq, osq⟩, hw''⟩ := hw'
            subst hw''
            have HB2 := Lib.hid (after HW.out (below_regrown wr dq osq))
            go_wp2_with fail
            go_roundw
            case rel => exact ⟨n + 1, by omega, by go_num, HY.out HXY.out, HB2.out⟩
            case measure => simp [intOf]; omega
          · have g1 : (x.typ != y.typ) = true := by simpa using h1
            have g1b : (x.typ == y.typ) = false := by simpa using h1
            have HXY := Lib.hid (show x ≠ y from fun h => h1 (by rw [h]))
            clear h0 h1
            go_wp2_with fail
            refine wp_region_quiet_below (by kernel_rfl) (by kernel_rfl) ?_
            repeat (first | go_big_quiet_step (fail) | quiet_step (fail))
            refine wpQuiet_nil ?_
            intro _ hw'
            obtain ⟨⟨dq, osq⟩, hw''⟩ := hw'
            subst hw''
            have HB2 := Lib.hid (after HW.out (below_regrown wr dq osq))
            go_wp2_with fail
            go_ret
            exact ⟨by rw [HN.out HXY.out]; rfl, HB2.out⟩
        · have g0 : (x.name != y.name) = true := by simpa using h0
          have g0b : (x.name == y.name) = false := by simpa using h0
          have HXY := Lib.hid (show x ≠ y from fun h => h0 (by rw [h]))
          clear h0
          go_wp2_with fail
          refine wp_region_quiet_below (by kernel_rfl) (by kernel_rfl) ?_
          repeat (first | go_big_quiet_step (fail) | quiet_step (fail))
          refine wpQuiet_nil ?_
          intro _ hw'
          obtain ⟨⟨dq, osq⟩, hw''⟩ := hw'
          subst hw''
          have HB2 := Lib.hid (after HW.out (below_regrown wr dq osq))
          go_wp2_with fail
          go_ret
          exact ⟨by rw [HN.out HXY.out]; rfl, HB2.out⟩
      · obtain rfl : n = la.length := by omega
        go_wp2_with fail
        go_ret
        exact ⟨by rw [eqPs_full HL.out HT.out]; rfl, HW.out⟩
  · have hl' : ((la.length : Int) != (lb.length : Int)) = true := by simp; omega
    have HL := Lib.hid hl
    clear hl
    go_enter Tryd.func82, Tryd.ntmps82
    go_wp2_with fail
    go_ret
    exact ⟨by rw [eqPs_len HL.out]; rfl, Below.refl _ _⟩
end Go.Proofs.YthiilnhiihfknaaDoor

namespace Go.Proofs.YthiilnhiihfknaaDoor
open Go Go.RowKit

theorem take_erF_snoc {l m : List Fn} {k : Nat} (h : (l.take k).map erF = (m.take k).map erF) (hl : k < l.length) (hm : k < m.length) (he : erF l[k] = erF m[k]) : (l.take (k + 1)).map erF = (m.take (k + 1)).map erF := by
  rw [List.take_succ_eq_append_getElem hl, List.take_succ_eq_append_getElem hm, List.map_append, List.map_append, h]
  simp [he]
theorem eqFl_no {la lb : List Fn} {k : Nat} (h1 : k < la.length) (h2 : k < lb.length) (h : eqFn la[k] lb[k] = false) : eqFl la lb = false := by
  simp only [eqFl, eqFn, decide_eq_false_iff_not] at h ⊢
  intro e
  apply h
  have := congrArg (fun l => l[k]?) e
  simpa [h1, h2] using this
theorem eqFl_yes {la lb : List Fn} (hl : la.length = lb.length) (h : (la.take la.length).map erF = (lb.take la.length).map erF) : eqFl la lb = true := by
  rw [List.take_length, hl, List.take_length] at h
  simp [eqFl, h]
theorem eqFl_len {la lb : List Fn} (hl : la.length ≠ lb.length) : eqFl la lb = false := by
  simp only [eqFl, decide_eq_false_iff_not]
  intro e
  exact hl (by simpa using congrArg List.length e)

set_option maxRecDepth 100000 in
set_option maxHeartbeats 8000000 in
theorem equalFuncs_calls (x y : Fn) (vp vb up ub : Value) (w : World) (hP1 : PIn w w.heap.size x.params vp) (hB1 : SIn w w.heap.size x.body vb) (hP2 : PIn w w.heap.size y.params up) (hB2 : SIn w w.heap.size y.body ub) :
    Calls Tryd.prog 60 #[fV x vp vb, fV y up ub] w fun r w' => r = .returned (.bool (eqFn x y)) ∧ Below w.heap.size w w' := by
  obtain ⟨A1, c1, rfl⟩ := hP1.slice
  obtain ⟨A2, c2, rfl⟩ := hB1.slice
  obtain ⟨A4, c4, rfl⟩ := hP2.slice
  obtain ⟨A5, c5, rfl⟩ := hB2.slice
  have HP1 := Lib.hid hP1
  have HB1 := Lib.hid hB1
  have HP2 := Lib.hid hP2
  have HBB := Lib.hid hB2
  have HX1 := Lib.hid ((FBox.new w x (.slice A1 x.params.length c1) (.slice A2 x.body.length c2)).keep (bal _ (fO y (.slice A4 y.params.length c4) (.slice A5 y.body.length c5))) (by simp))
  have HX2 := Lib.hid (FBox.new (w.alloc (fO x (.slice A1 x.params.length c1) (.slice A2 x.body.length c2))) y (.slice A4 y.params.length c4) (.slice A5 y.body.length c5))
  clear hP1 hB1 hP2 hB2
  by_cases h0 : x.name = y.name
  · have g0 : (x.name == y.name) = true := by simpa using h0
    by_cases h1 : x.result = y.result
    · have g1 : (x.result == y.result) = true := by simpa using h1
      cases h2 : eqPs x.params y.params with
      | false =>
        have H2 := Lib.hid h2
        have F := Lib.hid (show eqFn x y = false from eqFn_not fun h => by rw [erF_params h, eqPs_refl] at h2; cases h2)
        clear h2 h0 h1
        go_enter Tryd.func60, Tryd.ntmps60
        go_wp2_with fail
        refine (equalP_calls x.params y.params _ _ _ (HP1.out.up (bal2 _ _ _)) (HP2.out.up (bal2 _ _ _))).mono ?_
        rintro e w2 ⟨rfl, hb⟩
        have HB2 := Lib.hid (after (bal2 _ _ _) hb)
        clear hb
        rw [H2.out]
        go_wp2_with fail
        go_ret
        exact ⟨by rw [F.out]; rfl, HB2.out⟩
      | true =>
        have H2 := Lib.hid h2
        have F := Lib.hid (show eqFn x y = eqSl x.body y.body from eqFn_mk h0 h1 (eqPs_yes h2))
        clear h2 h0 h1
        go_enter Tryd.func60, Tryd.ntmps60
        go_wp2_with fail
        refine (equalP_calls x.params y.params _ _ _ (HP1.out.up (bal2 _ _ _)) (HP2.out.up (bal2 _ _ _))).mono ?_
        rintro e w2 ⟨rfl, hb⟩
        have HB2 := Lib.hid (after (bal2 _ _ _) hb)
        have X1 := HX1.out.keep hb (by simp; omega)
        have X2 := HX2.out.keep hb (by simp)
        rw [sz1] at X2
        have p3 := X1.c3
        have r3 := X2.c3
        clear hb X1 X2
        rw [H2.out]
        go_wp2_with fail
        refine (equalFuncS_calls x.body y.body _ _ _ (HB1.out.up HB2.out) (HBB.out.up HB2.out)).mono ?_
        rintro e w3 ⟨rfl, hb⟩
        have HB3 := Lib.hid (after HB2.out hb)
        clear hb
        go_wp2_with fail
        go_ret
        exact ⟨by rw [F.out]; rfl, HB3.out⟩
    · have g1 : (x.result == y.result) = false := by simpa using h1
      have F := Lib.hid (show eqFn x y = false from eqFn_not fun h => h1 (erF_result h))
      clear h0 h1
      go_enter Tryd.func60, Tryd.ntmps60
      go_wp2_with fail
      go_ret
      exact ⟨by rw [F.out]; rfl, bal2 _ _ _⟩
  · have g0 : (x.name == y.name) = false := by simpa using h0
    have F := Lib.hid (show eqFn x y = false from eqFn_not fun h => h0 (erF_name h))
    clear h0
    go_enter Tryd.func60, Tryd.ntmps60
    go_wp2_with fail
    go_ret
    exact ⟨by rw [F.out]; rfl, bal2 _ _ _⟩

set_option maxHeartbeats 4000000 in
theorem equalFuncF_calls (la lb : List Fn) (va vb : Value) (w : World) (hA : FIn w w.heap.size la va) (hB : FIn w w.heap.size lb vb) :
    Calls Tryd.prog 59 #[va, vb, .func (.func 60) #[] #[]] w fun r w' => r = .returned (.bool (eqFl la lb)) ∧ Below w.heap.size w w' := by
  obtain ⟨A1, c1, rfl⟩ := hA.slice
  obtain ⟨A2, c2, rfl⟩ := hB.slice
  have l1 := hA.le
  have l2 := hB.le
  have HA := Lib.hid hA
  have HB := Lib.hid hB
  clear hA hB
  by_cases hl : la.length = lb.length
  · have hl' : ((la.length : Int) != (lb.length : Int)) = false := by simp [hl]
    have HL := Lib.hid hl
    have hle : la.length ≤ lb.length := by omega
    clear hl
    go_enter Tryd.func59, Tryd.ntmps59
    go_wp2_with fail
    go_loopw [17] (fun i wr => ∃ n : Nat, n ≤ la.length ∧ i = .int .i64 n ∧ (la.take n).map erF = (lb.take n).map erF ∧ Below w.heap.size w wr) (fun i _ => la.length - (intOf i).toNat)
    case atStart => exact ⟨0, by omega, rfl, by simp, Below.refl _ _⟩
    case round =>
      obtain ⟨n, hn, rfl, ht, hbw⟩ := hrel
      have HT := Lib.hid ht
      have HW := Lib.hid hbw
      clear ht hbw
      by_cases hlt : n < la.length
      · have hlt2 : n < lb.length := by omega
        obtain ⟨b, o, vp, vb, hA, hbl, hoe, hc, s1, s2⟩ := HA.out.at_ n hlt
        obtain ⟨a0, a1, a2, a3, a4⟩ := hc.keep (fun i => HW.out.cell (p := ⟨b, i, none⟩) hbl)
        obtain ⟨A', c', rfl⟩ := s1.slice
        obtain ⟨A4, c4, rfl⟩ := s2.slice
        have HS1 := Lib.hid (PR.up s1 HW.out)
        have HS2 := Lib.hid (SIn.up s2 HW.out)
        subst hA
        clear s1 s2 hc
        obtain ⟨b2, o2, vp2, vb2, hA2, hbl2, hoe2, hc2, s1, s2⟩ := HB.out.at_ n hlt2
        obtain ⟨b0, b1, b2', b3, b4⟩ := hc2.keep (fun i => HW.out.cell (p := ⟨b2, i, none⟩) hbl2)
        obtain ⟨A6, c6, rfl⟩ := s1.slice
        obtain ⟨A7, c7, rfl⟩ := s2.slice
        have HS4 := Lib.hid (PR.up s1 HW.out)
        have HS5 := Lib.hid (SIn.up s2 HW.out)
        subst hA2
        clear s1 s2 hc2
        have hz := HW.out.size
        have hz1 : b2 < wr.heap.size := by omega
        have HY := Lib.hid (fun h : eqFn la[n] lb[n] = true => take_erF_snoc HT.out hlt hlt2 (eqFn_yes h))
        have HN := Lib.hid (fun h : eqFn la[n] lb[n] = false => eqFl_no hlt hlt2 h)
        generalize la[n] = x at *
        generalize lb[n] = y at *
        have hbb : ∀ o1 o2, Below w.heap.size w ((wr.alloc o1).alloc o2) := fun o1 o2 => (HW.out.alloc hz _).alloc (by simp; omega) _
        have HBB := Lib.hid hbb
        clear hbb
        cases he : eqFn x y with
        | true =>
          have HE := Lib.hid he
          clear he
          go_wp2_with fail
          refine (equalFuncs_calls x y _ _ _ _ _ (HS1.out.up (bal2 _ _ _)) (HS2.out.up (bal2 _ _ _)) (HS4.out.up (bal2 _ _ _)) (HS5.out.up (bal2 _ _ _))).mono ?_
          rintro x' w2 ⟨rfl, hb⟩
          have HB2 := Lib.hid (after (HBB.out _ _) hb)
          clear hb
          rw [HE.out]
          go_wp2_with fail
          go_roundw
          case rel => exact ⟨n + 1, by omega, by go_num, HY.out HE.out, HB2.out⟩
          case measure => simp [intOf]; omega
        | false =>
          have HE := Lib.hid he
          clear he
          go_wp2_with fail
          refine (equalFuncs_calls x y _ _ _ _ _ (HS1.out.up (bal2 _ _ _)) (HS2.out.up (bal2 _ _ _)) (HS4.out.up (bal2 _ _ _)) (HS5.out.up (bal2 _ _ _))).mono ?_
          rintro x' w2 ⟨rfl, hb⟩
          have HB2 := Lib.hid (after (HBB.out _ _) hb)
          clear hb
          rw [HE.out]
          go_wp2_with fail
          go_ret
          exact ⟨by rw [HN.out HE.out]; rfl, HB2.out⟩
      · obtain rfl : n = la.length := by omega
        go_wp2_with fail
        go_ret
        exact ⟨by rw [eqFl_yes HL.out HT.out]; rfl, HW.out⟩
  · have hl' : ((la.length : Int) != (lb.length : Int)) = true := by simp; omega
    have HL := Lib.hid hl
    clear hl
    go_enter Tryd.func59, Tryd.ntmps59
    go_wp2_with fail
    go_ret
    exact ⟨by rw [eqFl_len HL.out]; rfl, Below.refl _ _⟩

noncomputable def sameFn (a b : Fn) : Bool := fnB a && fnB b && eqFn a b
noncomputable def samePr (a b : List Fn) : Bool := checkB a && checkB b && eqFl a b

set_option maxRecDepth 100000 in
set_option maxHeartbeats 4000000 in
theorem sameFunc_calls (a b : Fn) (ha : OkF a) (hb : OkF b) (vp vb up ub : Value) (w : World) (hP1 : PIn w w.heap.size a.params vp) (hB1 : SIn w w.heap.size a.body vb) (hP2 : PIn w w.heap.size b.params up) (hB2 : SIn w w.heap.size b.body ub) (hG : Glob w) :
    Calls Tryd.prog 28 #[fV a vp vb, fV b up ub] w fun r w' => r = .returned (.bool (sameFn a b)) ∧ Below w.heap.size w w' := by
  obtain ⟨A1, c1, rfl⟩ := hP1.slice
  obtain ⟨A2, c2, rfl⟩ := hB1.slice
  obtain ⟨A4, c4, rfl⟩ := hP2.slice
  obtain ⟨A5, c5, rfl⟩ := hB2.slice
  have HP1 := Lib.hid hP1
  have HB1 := Lib.hid hB1
  have HP2 := Lib.hid hP2
  have HBB := Lib.hid hB2
  have HG := Lib.hid hG
  have HX1 := Lib.hid ((FBox.new w a (.slice A1 a.params.length c1) (.slice A2 a.body.length c2)).keep (bal _ (fO b (.slice A4 b.params.length c4) (.slice A5 b.body.length c5))) (by simp))
  have HX2 := Lib.hid (FBox.new (w.alloc (fO a (.slice A1 a.params.length c1) (.slice A2 a.body.length c2))) b (.slice A4 b.params.length c4) (.slice A5 b.body.length c5))
  clear hP1 hB1 hP2 hB2 hG
  cases h1 : fnB a with
  | false =>
    have H1 := Lib.hid h1
    have F := Lib.hid (show sameFn a b = false by simp [sameFn, h1])
    clear h1
    go_enter Tryd.func28, Tryd.ntmps28
    go_wp2_with fail
    refine (rightFunc_calls a ha _ _ _ (HP1.out.up (bal2 _ _ _)) (HB1.out.up (bal2 _ _ _)) (HG.out.up (bal2 _ _ _))).mono ?_
    rintro e w2 ⟨rfl, hb⟩
    have HB2 := Lib.hid (after (bal2 _ _ _) hb)
    clear hb
    rw [H1.out]
    go_wp2_with fail
    go_ret
    exact ⟨by rw [F.out]; rfl, HB2.out⟩
  | true =>
    have H1 := Lib.hid h1
    clear h1
    cases h2 : fnB b with
    | false =>
      have H2 := Lib.hid h2
      have F := Lib.hid (show sameFn a b = false by simp [sameFn, h2])
      clear h2
      go_enter Tryd.func28, Tryd.ntmps28
      go_wp2_with fail
      refine (rightFunc_calls a ha _ _ _ (HP1.out.up (bal2 _ _ _)) (HB1.out.up (bal2 _ _ _)) (HG.out.up (bal2 _ _ _))).mono ?_
      rintro e w2 ⟨rfl, hb'⟩
      have HB2 := Lib.hid (after (bal2 _ _ _) hb')
      have X2 := HX2.out.keep hb' (by simp)
      rw [sz1] at X2
      obtain ⟨r0, r1, r2, r3, r4⟩ := X2
      clear hb'
      rw [H1.out]
      go_wp2_with fail
      refine (rightFunc_calls b hb _ _ _ (HP2.out.up HB2.out) (HBB.out.up HB2.out) (HG.out.up HB2.out)).mono ?_
      rintro e w3 ⟨rfl, hb'⟩
      have HB3 := Lib.hid (after HB2.out hb')
      clear hb'
      rw [H2.out]
      go_wp2_with fail
      go_ret
      exact ⟨by rw [F.out]; rfl, HB3.out⟩
    | true =>
      have H2 := Lib.hid h2
      have F := Lib.hid (show sameFn a b = eqFn a b by simp [sameFn, H1.out, h2])
      clear h2
      go_enter Tryd.func28, Tryd.ntmps28
      go_wp2_with fail
      refine (rightFunc_calls a ha _ _ _ (HP1.out.up (bal2 _ _ _)) (HB1.out.up (bal2 _ _ _)) (HG.out.up (bal2 _ _ _))).mono ?_
      rintro e w2 ⟨rfl, hb'⟩
      have HB2 := Lib.hid (after (bal2 _ _ _) hb')
      have X1 := HX1.out.keep hb' (by simp; omega)
      have X2 := HX2.out.keep hb' (by simp)
      rw [sz1] at X2
      have hz2 : w.heap.size + 2 ≤ w2.heap.size := by have := hb'.size; simpa using this
      have HX1 := Lib.hid X1
      have HX2 := Lib.hid X2
      obtain ⟨r0, r1, r2, r3, r4⟩ := X2
      clear hb' X1
      rw [H1.out]
      go_wp2_with fail
      refine (rightFunc_calls b hb _ _ _ (HP2.out.up HB2.out) (HBB.out.up HB2.out) (HG.out.up HB2.out)).mono ?_
      rintro e w3 ⟨rfl, hb'⟩
      have HB3 := Lib.hid (after HB2.out hb')
      obtain ⟨p0, p1, p2, p3, p4⟩ := HX1.out.keep hb' (by omega)
      obtain ⟨s0, s1, s2, s3, s4⟩ := HX2.out.keep hb' (by omega)
      clear hb' r0 r1 r2 r3 r4
      rw [H2.out]
      go_wp2_with fail
      refine (equalFuncs_calls a b _ _ _ _ _ (HP1.out.up HB3.out) (HB1.out.up HB3.out) (HP2.out.up HB3.out) (HBB.out.up HB3.out)).mono ?_
      rintro e w4 ⟨rfl, hb'⟩
      have HB4 := Lib.hid (after HB3.out hb')
      clear hb'
      go_wp2_with fail
      go_ret
      exact ⟨by rw [F.out]; rfl, HB4.out⟩

set_option maxRecDepth 100000 in
set_option maxHeartbeats 4000000 in
theorem same_calls (a b : List Fn) (va vb : Value) (w : World) (hA : FIn w w.heap.size a va) (hB : FIn w w.heap.size b vb) (hG : Glob w) :
    Calls Tryd.prog 26 #[.agg #[va], .agg #[vb]] w fun r w' => r = .returned (.bool (samePr a b)) ∧ Below w.heap.size w w' := by
  obtain ⟨A1, c1, rfl⟩ := hA.slice
  obtain ⟨A2, c2, rfl⟩ := hB.slice
  have HA := Lib.hid hA
  have HB := Lib.hid hB
  have HG := Lib.hid hG
  obtain ⟨b1, b2, b3⟩ := two w (.cells #[.slice A1 a.length c1] 35) (.cells #[.slice A2 b.length c2] 35)
  have HX1 := Lib.hid b1
  have HX2 := Lib.hid b2
  clear hA hB hG b1 b2 b3
  cases h1 : checkB a with
  | false =>
    have H1 := Lib.hid (show errI (checkB a) = 2 by rw [h1]; rfl)
    have F := Lib.hid (show samePr a b = false by simp [samePr, h1])
    clear h1
    go_enter Tryd.func26, Tryd.ntmps26
    go_wp2_with fail
    refine (check_calls a _ _ (HA.out.up (bal2 _ _ _)) (HG.out.up (bal2 _ _ _))).mono ?_
    rintro e w2 ⟨rfl, hb⟩
    have HB2 := Lib.hid (after (bal2 _ _ _) hb)
    clear hb
    rw [H1.out]
    go_wp2_with fail
    go_ret
    exact ⟨by rw [F.out]; rfl, HB2.out⟩
  | true =>
    have H1 := Lib.hid (show errI (checkB a) = 0 by rw [h1]; rfl)
    cases h2 : checkB b with
    | false =>
      have H2 := Lib.hid (show errI (checkB b) = 2 by rw [h2]; rfl)
      have F := Lib.hid (show samePr a b = false by simp [samePr, h2])
      clear h1 h2
      go_enter Tryd.func26, Tryd.ntmps26
      go_wp2_with fail
      refine (check_calls a _ _ (HA.out.up (bal2 _ _ _)) (HG.out.up (bal2 _ _ _))).mono ?_
      rintro e w2 ⟨rfl, hb'⟩
      have HB2 := Lib.hid (after (bal2 _ _ _) hb')
      have r0 := cell_of_one ((hb'.block (w.heap.size + 1) (by simp)).trans HX2.out)
      clear hb'
      rw [H1.out]
      go_wp2_with fail
      refine (check_calls b _ _ (HB.out.up HB2.out) (HG.out.up HB2.out)).mono ?_
      rintro e w3 ⟨rfl, hb'⟩
      have HB3 := Lib.hid (after HB2.out hb')
      clear hb'
      rw [H2.out]
      go_wp2_with fail
      go_ret
      exact ⟨by rw [F.out]; rfl, HB3.out⟩
    | true =>
      have H2 := Lib.hid (show errI (checkB b) = 0 by rw [h2]; rfl)
      have F := Lib.hid (show samePr a b = eqFl a b by simp [samePr, h1, h2])
      clear h1 h2
      go_enter Tryd.func26, Tryd.ntmps26
      go_wp2_with fail
      refine (check_calls a _ _ (HA.out.up (bal2 _ _ _)) (HG.out.up (bal2 _ _ _))).mono ?_
      rintro e w2 ⟨rfl, hb'⟩
      have HB2 := Lib.hid (after (bal2 _ _ _) hb')
      have hz2 : w.heap.size + 2 ≤ w2.heap.size := by have := hb'.size; simpa using this
      have HX1 := Lib.hid ((hb'.block w.heap.size (by simp; omega)).trans HX1.out)
      have HX2 := Lib.hid ((hb'.block (w.heap.size + 1) (by simp)).trans HX2.out)
      have r0 := cell_of_one HX2.out
      clear hb'
      rw [H1.out]
      go_wp2_with fail
      refine (check_calls b _ _ (HB.out.up HB2.out) (HG.out.up HB2.out)).mono ?_
      rintro e w3 ⟨rfl, hb'⟩
      have HB3 := Lib.hid (after HB2.out hb')
      have p0 := cell_of_one ((hb'.block w.heap.size (by omega)).trans HX1.out)
      have q0 := cell_of_one ((hb'.block (w.heap.size + 1) (by omega)).trans HX2.out)
      clear hb' r0
      rw [H2.out]
      go_wp2_with fail
      refine (equalFuncF_calls a b _ _ _ (HA.out.up HB3.out) (HB.out.up HB3.out)).mono ?_
      rintro e w4 ⟨rfl, hb'⟩
      have HB4 := Lib.hid (after HB3.out hb')
      clear hb'
      go_wp2_with fail
      go_ret
      exact ⟨by rw [F.out]; rfl, HB4.out⟩
end Go.Proofs.YthiilnhiihfknaaDoor
