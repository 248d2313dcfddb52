/-
  The reference's SameFunc, Same: contracts. Written by gen3_refsamef.py.
-/
import Derived.Test.YthiilnhiihfknaaDoorSRChk
import Derived.Test.YthiilnhiihfknaaDoorSFun
import Derived.Test.YthiilnhiihfknaaDoorSStmts
namespace Go.Proofs.YthiilnhiihfknaaDoor
open Go Go.RowKit Go.Sort

set_option maxRecDepth 100000 in
set_option maxHeartbeats 20000000 in
theorem refSameFunc_calls (a b : Fn) (ha : OkF a) (hb : OkF b) (vp vb up ub : Value) (w : World) (hP1 : PIn w w.heap.size a.params vp) (hB1 : SIn w w.heap.size a.body vb) (hP2 : PIn w w.heap.size b.params up) (hB2 : SIn w w.heap.size b.body ub) :
    Calls Tryd.prog 29 #[fV a vp vb, fV b up ub] w fun r w' => r = .returned (.bool (sameFn a b)) ∧ Below w.heap.size w w' := by
  obtain ⟨A1, c1, rfl⟩ := hP1.slice
  obtain ⟨A2, c2, rfl⟩ := hB1.slice
  obtain ⟨A4, c4, rfl⟩ := hP2.slice
  obtain ⟨A5, c5, rfl⟩ := hB2.slice
  have l1 := hP1.le
  have l2 := hP2.le
  have HP1 := Lib.hid hP1
  have HB1 := Lib.hid hB1
  have HP2 := Lib.hid hP2
  have HBB := Lib.hid hB2
  have HX1 := Lib.hid ((FBox.new w a (.slice A1 a.params.length c1) (.slice A2 a.body.length c2)).keep (bal _ (fO b (.slice A4 b.params.length c4) (.slice A5 b.body.length c5))) (by simp))
  have HX2 := Lib.hid (FBox.new (w.alloc (fO a (.slice A1 a.params.length c1) (.slice A2 a.body.length c2))) b (.slice A4 b.params.length c4) (.slice A5 b.body.length c5))
  clear hP1 hB1 hP2 hB2
  cases h1 : fnB a with
  | false =>
    have H1 := Lib.hid h1
    have F := Lib.hid (show sameFn a b = false by simp [sameFn, h1])
    clear h1
    go_enter Tryd.func29, Tryd.ntmps29
    go_wp2_with fail
    refine (refFunc_calls a ha _ _ _ (HP1.out.up (bal2 _ _ _)) (HB1.out.up (bal2 _ _ _))).mono ?_
    rintro e w2 ⟨rfl, hb'⟩
    have HB2 := Lib.hid (after (bal2 _ _ _) hb')
    clear hb'
    rw [H1.out]
    go_wp2_with fail
    go_ret
    exact ⟨by rw [F.out]; rfl, HB2.out⟩
  | true =>
    have H1 := Lib.hid h1
    clear h1
    cases h2 : fnB b with
    | false =>
      have H2 := Lib.hid h2
      have F := Lib.hid (show sameFn a b = false by simp [sameFn, h2])
      clear h2
      go_enter Tryd.func29, Tryd.ntmps29
      go_wp2_with fail
      refine (refFunc_calls a ha _ _ _ (HP1.out.up (bal2 _ _ _)) (HB1.out.up (bal2 _ _ _))).mono ?_
      rintro e w2 ⟨rfl, hb'⟩
      have HB2 := Lib.hid (after (bal2 _ _ _) hb')
      have X1 := HX1.out.keep hb' (by simp; omega)
      have X2 := HX2.out.keep hb' (by simp)
      rw [sz1] at X2
      have hz2 : w.heap.size + 2 ≤ w2.heap.size := by have := hb'.size; simpa using this
      have HX1 := Lib.hid X1
      have HX2 := Lib.hid X2
      obtain ⟨r0, r1, r2, r3, r4⟩ := X2
      clear hb' X1
      rw [H1.out]
      go_wp2_with fail
      refine (refFunc_calls b hb _ _ _ (HP2.out.up HB2.out) (HBB.out.up HB2.out)).mono ?_
      rintro e w3 ⟨rfl, hb'⟩
      have HB3 := Lib.hid (after HB2.out hb')
      clear hb'
      rw [H2.out]
      go_wp2_with fail
      go_ret
      exact ⟨by rw [F.out]; rfl, HB3.out⟩
    | true =>
      have H2 := Lib.hid h2
      have FE := Lib.hid (show sameFn a b = eqFn a b by simp [sameFn, H1.out, h2])
      clear h2
      by_cases h3 : a.name = b.name
      · have g3 : (a.name != b.name) = false := by simpa using h3
        have g3b : (a.name == b.name) = true := by simpa using h3
        by_cases h4 : a.result = b.result
        · have g4 : (a.result != b.result) = false := by simpa using h4
          by_cases h5 : a.params.length = b.params.length
          · have g5 : ((a.params.length : Int) != (b.params.length : Int)) = false := by simp [h5]
            have F := Lib.hid (fun h : a.params = b.params => show sameFn a b = eqSl a.body b.body by rw [FE.out, eqFn_mk h3 h4 h])
            have FN := Lib.hid (fun h : a.params ≠ b.params => show sameFn a b = false by rw [FE.out]; exact eqFn_not fun e => h (erF_params e))
            have HL := Lib.hid h5
            have hle : a.params.length ≤ b.params.length := by omega
            clear h3 h4 h5
            go_enter Tryd.func29, Tryd.ntmps29
            go_wp2_with fail
            refine (refFunc_calls a ha _ _ _ (HP1.out.up (bal2 _ _ _)) (HB1.out.up (bal2 _ _ _))).mono ?_
            rintro e w2 ⟨rfl, hb'⟩
            have HB2 := Lib.hid (after (bal2 _ _ _) hb')
            have X1 := HX1.out.keep hb' (by simp; omega)
            have X2 := HX2.out.keep hb' (by simp)
            rw [sz1] at X2
            have hz2 : w.heap.size + 2 ≤ w2.heap.size := by have := hb'.size; simpa using this
            have HX1 := Lib.hid X1
            have HX2 := Lib.hid X2
            obtain ⟨r0, r1, r2, r3, r4⟩ := X2
            clear hb' X1
            rw [H1.out]
            go_wp2_with fail
            refine (refFunc_calls b hb _ _ _ (HP2.out.up HB2.out) (HBB.out.up HB2.out)).mono ?_
            rintro e w3 ⟨rfl, hb'⟩
            have HB3 := Lib.hid (after HB2.out hb')
            have hz3 : w.heap.size + 2 ≤ w3.heap.size := by have := hb'.size; omega
            have Y1 := HX1.out.keep hb' (by omega)
            have Y2 := HX2.out.keep hb' (by omega)
            have HY1 := Lib.hid Y1
            have HY2 := Lib.hid Y2
            obtain ⟨p0, p1, p2, p3, p4⟩ := Y1
            obtain ⟨s0, s1, s2, s3, s4⟩ := Y2
            clear hb' r0 r1 r2 r3 r4
            rw [H2.out]
            go_wp2_with fail
            go_loopw [5] (fun i wr => ∃ n : Nat, n ≤ a.params.length ∧ i = .int .i64 n ∧ a.params.take n = b.params.take n ∧ Below w3.heap.size w3 wr) (fun i _ => a.params.length - (intOf i).toNat)
            case atStart => exact ⟨0, by omega, rfl, by simp, Below.refl _ _⟩
            case round =>
              obtain ⟨n, hn, rfl, ht, hbw⟩ := hrel
              have HT := Lib.hid ht
              have HW := Lib.hid hbw
              have HWW := Lib.hid (after HB3.out hbw)
              clear ht hbw p0 p1 p2 p3 p4 s0 s1 s2 s3 s4
              obtain ⟨p0, p1, p2, p3, p4⟩ := HY1.out.keep HW.out (by omega)
              obtain ⟨s0, s1, s2, s3, s4⟩ := HY2.out.keep HW.out (by omega)
              by_cases hlt : n < a.params.length
              · have hlt2 : n < b.params.length := by omega
                obtain ⟨bk, o, hA, hbl, hoe, hc⟩ := HP1.out.at_ n hlt
                obtain ⟨a0, a1⟩ := hc.keep (fun i => HWW.out.cell (p := ⟨bk, i, none⟩) hbl)
                subst hA
                clear hc
                obtain ⟨b2, o2, hA2, hbl2, hoe2, hc2⟩ := HP2.out.at_ n hlt2
                obtain ⟨b0, b1⟩ := hc2.keep (fun i => HWW.out.cell (p := ⟨b2, i, none⟩) hbl2)
                subst hA2
                clear hc2
                have HYY := Lib.hid (fun h : a.params[n] = b.params[n] => take_eq_snoc HT.out hlt hlt2 h)
                have HN := Lib.hid (fun (h : a.params[n] ≠ b.params[n]) (e : a.params = b.params) => h (by simp only [e]))
                generalize a.params[n] = x at *
                generalize b.params[n] = y at *
                have qp1 := fun d os => cell_regrown p1 d os
                have qs1 := fun d os => cell_regrown s1 d os
                have qa0 := fun d os => cell_regrown a0 d os
                have qa1 := fun d os => cell_regrown a1 d os
                have qb0 := fun d os => cell_regrown b0 d os
                have qb1 := fun d os => cell_regrown b1 d os
                clear a0 a1 b0 b1 p0 p2 p3 p4 s0 s2 s3 s4
                by_cases h0 : x.name = y.name
                · have g0 : (x.name != y.name) = false := by simpa using h0
                  have g0b : (x.name == y.name) = true := by simpa using h0
                  by_cases h1 : x.typ = y.typ
                  · have g1 : (x.typ != y.typ) = false := by simpa using h1
                    have g1b : (x.typ == y.typ) = true := by simpa using h1
                    have HXY := Lib.hid (pa_eq h0 h1)
                    clear h0 h1
                    go_wp2_with fail
                    refine wp_region_quiet_below (by kernel_rfl) (by kernel_rfl) ?_
                    repeat (first | go_big_quiet_step (fail) | quiet_step (fail))
                    refine wpQuiet_nil ?_
                    intro _ hw'
                    obtain ⟨⟨dq, osq⟩, hw''⟩ := hw'
                    subst hw''
                    have HB4 := Lib.hid (after HW.out (below_regrown wr dq osq))
                    go_wp2_with fail
                    go_roundw
                    case rel => exact ⟨n + 1, by omega, by go_num, HYY.out HXY.out, HB4.out⟩
                    case measure => simp [intOf]; omega
                  · have g1 : (x.typ != y.typ) = true := by simpa using h1
                    have g1b : (x.typ == y.typ) = false := by simpa using h1
                    have HXY := Lib.hid (show x ≠ y from fun h => h1 (by rw [h]))
                    clear h0 h1
                    go_wp2_with fail
                    refine wp_region_quiet_below (by kernel_rfl) (by kernel_rfl) ?_
                    repeat (first | go_big_quiet_step (fail) | quiet_step (fail))
                    refine wpQuiet_nil ?_
                    intro _ hw'
                    obtain ⟨⟨dq, osq⟩, hw''⟩ := hw'
                    subst hw''
                    have HB4 := Lib.hid (after HWW.out (below_regrown wr dq osq))
                    go_wp2_with fail
                    go_ret
                    exact ⟨by rw [FN.out (HN.out HXY.out)]; rfl, HB4.out⟩
                · have g0 : (x.name != y.name) = true := by simpa using h0
                  have g0b : (x.name == y.name) = false := by simpa using h0
                  have HXY := Lib.hid (show x ≠ y from fun h => h0 (by rw [h]))
                  clear h0
                  go_wp2_with fail
                  refine wp_region_quiet_below (by kernel_rfl) (by kernel_rfl) ?_
                  repeat (first | go_big_quiet_step (fail) | quiet_step (fail))
                  refine wpQuiet_nil ?_
                  intro _ hw'
                  obtain ⟨⟨dq, osq⟩, hw''⟩ := hw'
                  subst hw''
                  have HB4 := Lib.hid (after HWW.out (below_regrown wr dq osq))
                  go_wp2_with fail
                  go_ret
                  exact ⟨by rw [FN.out (HN.out HXY.out)]; rfl, HB4.out⟩
              · obtain rfl : n = a.params.length := by omega
                have HE := Lib.hid (show sameFn a b = eqSl a.body b.body from F.out (eqPs_yes (eqPs_full HL.out HT.out)))
                go_wp2_with fail
                refine (refStmts_calls a.body b.body _ _ _ (HB1.out.up HWW.out) (HBB.out.up HWW.out)).mono ?_
                rintro e w5 ⟨rfl, hb'⟩
                have HB5 := Lib.hid (after HWW.out hb')
                clear hb'
                go_wp2_with fail
                go_ret
                exact ⟨by rw [HE.out]; rfl, HB5.out⟩
          · have g5 : ((a.params.length : Int) != (b.params.length : Int)) = true := by simp; omega
            have F := Lib.hid (show sameFn a b = false by rw [FE.out]; exact eqFn_not fun e => h5 (by rw [erF_params e]))
            clear h3 h4 h5
            go_enter Tryd.func29, Tryd.ntmps29
            go_wp2_with fail
            refine (refFunc_calls a ha _ _ _ (HP1.out.up (bal2 _ _ _)) (HB1.out.up (bal2 _ _ _))).mono ?_
            rintro e w2 ⟨rfl, hb'⟩
            have HB2 := Lib.hid (after (bal2 _ _ _) hb')
            have X1 := HX1.out.keep hb' (by simp; omega)
            have X2 := HX2.out.keep hb' (by simp)
            rw [sz1] at X2
            have hz2 : w.heap.size + 2 ≤ w2.heap.size := by have := hb'.size; simpa using this
            have HX1 := Lib.hid X1
            have HX2 := Lib.hid X2
            obtain ⟨r0, r1, r2, r3, r4⟩ := X2
            clear hb' X1
            rw [H1.out]
            go_wp2_with fail
            refine (refFunc_calls b hb _ _ _ (HP2.out.up HB2.out) (HBB.out.up HB2.out)).mono ?_
            rintro e w3 ⟨rfl, hb'⟩
            have HB3 := Lib.hid (after HB2.out hb')
            have hz3 : w.heap.size + 2 ≤ w3.heap.size := by have := hb'.size; omega
            have Y1 := HX1.out.keep hb' (by omega)
            have Y2 := HX2.out.keep hb' (by omega)
            have HY1 := Lib.hid Y1
            have HY2 := Lib.hid Y2
            obtain ⟨p0, p1, p2, p3, p4⟩ := Y1
            obtain ⟨s0, s1, s2, s3, s4⟩ := Y2
            clear hb' r0 r1 r2 r3 r4
            rw [H2.out]
            go_wp2_with fail
            go_ret
            exact ⟨by rw [F.out]; rfl, HB3.out⟩
        · have g4 : (a.result != b.result) = true := by simpa using h4
          have F := Lib.hid (show sameFn a b = false by rw [FE.out]; exact eqFn_not fun e => h4 (erF_result e))
          clear h3 h4
          go_enter Tryd.func29, Tryd.ntmps29
          go_wp2_with fail
          refine (refFunc_calls a ha _ _ _ (HP1.out.up (bal2 _ _ _)) (HB1.out.up (bal2 _ _ _))).mono ?_
          rintro e w2 ⟨rfl, hb'⟩
          have HB2 := Lib.hid (after (bal2 _ _ _) hb')
          have X1 := HX1.out.keep hb' (by simp; omega)
          have X2 := HX2.out.keep hb' (by simp)
          rw [sz1] at X2
          have hz2 : w.heap.size + 2 ≤ w2.heap.size := by have := hb'.size; simpa using this
          have HX1 := Lib.hid X1
          have HX2 := Lib.hid X2
          obtain ⟨r0, r1, r2, r3, r4⟩ := X2
          clear hb' X1
          rw [H1.out]
          go_wp2_with fail
          refine (refFunc_calls b hb _ _ _ (HP2.out.up HB2.out) (HBB.out.up HB2.out)).mono ?_
          rintro e w3 ⟨rfl, hb'⟩
          have HB3 := Lib.hid (after HB2.out hb')
          have hz3 : w.heap.size + 2 ≤ w3.heap.size := by have := hb'.size; omega
          have Y1 := HX1.out.keep hb' (by omega)
          have Y2 := HX2.out.keep hb' (by omega)
          have HY1 := Lib.hid Y1
          have HY2 := Lib.hid Y2
          obtain ⟨p0, p1, p2, p3, p4⟩ := Y1
          obtain ⟨s0, s1, s2, s3, s4⟩ := Y2
          clear hb' r0 r1 r2 r3 r4
          rw [H2.out]
          go_wp2_with fail
          go_ret
          exact ⟨by rw [F.out]; rfl, HB3.out⟩
      · have g3 : (a.name != b.name) = true := by simpa using h3
        have g3b : (a.name == b.name) = false := by simpa using h3
        have F := Lib.hid (show sameFn a b = false by rw [FE.out]; exact eqFn_not fun e => h3 (erF_name e))
        clear h3
        go_enter Tryd.func29, Tryd.ntmps29
        go_wp2_with fail
        refine (refFunc_calls a ha _ _ _ (HP1.out.up (bal2 _ _ _)) (HB1.out.up (bal2 _ _ _))).mono ?_
        rintro e w2 ⟨rfl, hb'⟩
        have HB2 := Lib.hid (after (bal2 _ _ _) hb')
        have X1 := HX1.out.keep hb' (by simp; omega)
        have X2 := HX2.out.keep hb' (by simp)
        rw [sz1] at X2
        have hz2 : w.heap.size + 2 ≤ w2.heap.size := by have := hb'.size; simpa using this
        have HX1 := Lib.hid X1
        have HX2 := Lib.hid X2
        obtain ⟨r0, r1, r2, r3, r4⟩ := X2
        clear hb' X1
        rw [H1.out]
        go_wp2_with fail
        refine (refFunc_calls b hb _ _ _ (HP2.out.up HB2.out) (HBB.out.up HB2.out)).mono ?_
        rintro e w3 ⟨rfl, hb'⟩
        have HB3 := Lib.hid (after HB2.out hb')
        have hz3 : w.heap.size + 2 ≤ w3.heap.size := by have := hb'.size; omega
        have Y1 := HX1.out.keep hb' (by omega)
        have Y2 := HX2.out.keep hb' (by omega)
        have HY1 := Lib.hid Y1
        have HY2 := Lib.hid Y2
        obtain ⟨p0, p1, p2, p3, p4⟩ := Y1
        obtain ⟨s0, s1, s2, s3, s4⟩ := Y2
        clear hb' r0 r1 r2 r3 r4
        rw [H2.out]
        go_wp2_with fail
        go_ret
        exact ⟨by rw [F.out]; rfl, HB3.out⟩

set_option maxRecDepth 100000 in
set_option maxHeartbeats 20000000 in
theorem refSame_calls (a b : List Fn) (va vb : Value) (w : World) (hA : FIn w w.heap.size a va) (hB : FIn w w.heap.size b vb) :
    Calls Tryd.prog 27 #[.agg #[va], .agg #[vb]] w fun r w' => r = .returned (.bool (samePr a b)) ∧ Below w.heap.size w w' := by
  obtain ⟨A1, c1, rfl⟩ := hA.slice
  obtain ⟨A2, c2, rfl⟩ := hB.slice
  have l1 := hA.le
  have l2 := hB.le
  have HA := Lib.hid hA
  have HB := Lib.hid hB
  obtain ⟨b1, b2, b3⟩ := two w (.cells #[.slice A1 a.length c1] 35) (.cells #[.slice A2 b.length c2] 35)
  have HX1 := Lib.hid b1
  have HX2 := Lib.hid b2
  clear hA hB b1 b2 b3
  cases h1 : checkB a with
  | false =>
    have H1 := Lib.hid (show errI (checkB a) = 2 by rw [h1]; rfl)
    have F := Lib.hid (show samePr a b = false by simp [samePr, h1])
    clear h1
    go_enter Tryd.func27, Tryd.ntmps27
    go_wp2_with fail
    refine (refCheck_calls a _ _ (HA.out.up (bal2 _ _ _))).mono ?_
    rintro e w2 ⟨rfl, hb⟩
    have HB2 := Lib.hid (after (bal2 _ _ _) hb)
    clear hb
    rw [H1.out]
    go_wp2_with fail
    go_ret
    exact ⟨by rw [F.out]; rfl, HB2.out⟩
  | true =>
    have H1 := Lib.hid (show errI (checkB a) = 0 by rw [h1]; rfl)
    cases h2 : checkB b with
    | false =>
      have H2 := Lib.hid (show errI (checkB b) = 2 by rw [h2]; rfl)
      have F := Lib.hid (show samePr a b = false by simp [samePr, h2])
      clear h1 h2
      go_enter Tryd.func27, Tryd.ntmps27
      go_wp2_with fail
      refine (refCheck_calls a _ _ (HA.out.up (bal2 _ _ _))).mono ?_
      rintro e w2 ⟨rfl, hb'⟩
      have HB2 := Lib.hid (after (bal2 _ _ _) hb')
      have r0 := cell_of_one ((hb'.block (w.heap.size + 1) (by simp)).trans HX2.out)
      clear hb'
      rw [H1.out]
      go_wp2_with fail
      refine (refCheck_calls b _ _ (HB.out.up HB2.out)).mono ?_
      rintro e w3 ⟨rfl, hb'⟩
      have HB3 := Lib.hid (after HB2.out hb')
      clear hb'
      rw [H2.out]
      go_wp2_with fail
      go_ret
      exact ⟨by rw [F.out]; rfl, HB3.out⟩
    | true =>
      have H2 := Lib.hid (show errI (checkB b) = 0 by rw [h2]; rfl)
      have FE := Lib.hid (show samePr a b = eqFl a b by simp [samePr, h1, h2])
      have FA' := Lib.hid (fun x (hx : x ∈ a) => show fnB x = true by simp only [checkB, fnsB, Bool.and_eq_true, List.all_eq_true] at h1; exact h1.1.2 x hx)
      have FB' := Lib.hid (fun x (hx : x ∈ b) => show fnB x = true by simp only [checkB, fnsB, Bool.and_eq_true, List.all_eq_true] at h2; exact h2.1.2 x hx)
      clear h1 h2
      by_cases hl : a.length = b.length
      · have hl' : ((a.length : Int) != (b.length : Int)) = false := by simp [hl]
        have HL := Lib.hid hl
        have hle : a.length ≤ b.length := by omega
        clear hl
        go_enter Tryd.func27, Tryd.ntmps27
        go_wp2_with fail
        refine (refCheck_calls a _ _ (HA.out.up (bal2 _ _ _))).mono ?_
        rintro e w2 ⟨rfl, hb'⟩
        have HB2 := Lib.hid (after (bal2 _ _ _) hb')
        have hz2 : w.heap.size + 2 ≤ w2.heap.size := by have := hb'.size; simpa using this
        have HX1 := Lib.hid ((hb'.block w.heap.size (by simp; omega)).trans HX1.out)
        have HX2 := Lib.hid ((hb'.block (w.heap.size + 1) (by simp)).trans HX2.out)
        have r0 := cell_of_one HX2.out
        clear hb'
        rw [H1.out]
        go_wp2_with fail
        refine (refCheck_calls b _ _ (HB.out.up HB2.out)).mono ?_
        rintro e w3 ⟨rfl, hb'⟩
        have HB3 := Lib.hid (after HB2.out hb')
        have hz3 : w.heap.size + 2 ≤ w3.heap.size := by have := hb'.size; omega
        have HX1 := Lib.hid ((hb'.block w.heap.size (by omega)).trans HX1.out)
        have HX2 := Lib.hid ((hb'.block (w.heap.size + 1) (by omega)).trans HX2.out)
        have p0 := cell_of_one HX1.out
        have q0 := cell_of_one HX2.out
        clear hb' r0
        rw [H2.out]
        go_wp2_with fail
        go_loopw [5] (fun i wr => ∃ n : Nat, n ≤ a.length ∧ i = .int .i64 n ∧ (a.take n).map erF = (b.take n).map erF ∧ Below w3.heap.size w3 wr) (fun i _ => a.length - (intOf i).toNat)
        case atStart => exact ⟨0, by omega, rfl, by simp, Below.refl _ _⟩
        case round =>
          obtain ⟨n, hn, rfl, ht, hbw⟩ := hrel
          have HT := Lib.hid ht
          have HW := Lib.hid hbw
          have HWW := Lib.hid (after HB3.out hbw)
          clear ht hbw p0 q0
          have p0 := cell_of_one ((HW.out.block w.heap.size (by omega)).trans HX1.out)
          have q0 := cell_of_one ((HW.out.block (w.heap.size + 1) (by omega)).trans HX2.out)
          by_cases hlt : n < a.length
          · have hlt2 : n < b.length := by omega
            obtain ⟨bk, o, vp, vb, hA, hbl, hoe, hc, s1, s2⟩ := HA.out.at_ n hlt
            obtain ⟨a0, a1, a2, a3, a4⟩ := hc.keep (fun i => HWW.out.cell (p := ⟨bk, i, none⟩) hbl)
            obtain ⟨A', c', rfl⟩ := s1.slice
            obtain ⟨A4, c4, rfl⟩ := s2.slice
            have HS1 := Lib.hid (PR.up s1 HWW.out)
            have HS2 := Lib.hid (SIn.up s2 HWW.out)
            subst hA
            clear s1 s2 hc
            obtain ⟨b2, o2, vp2, vb2, hA2, hbl2, hoe2, hc2, s1, s2⟩ := HB.out.at_ n hlt2
            obtain ⟨b0, b1, b2', b3, b4⟩ := hc2.keep (fun i => HWW.out.cell (p := ⟨b2, i, none⟩) hbl2)
            obtain ⟨A6, c6, rfl⟩ := s1.slice
            obtain ⟨A7, c7, rfl⟩ := s2.slice
            have HS4 := Lib.hid (PR.up s1 HWW.out)
            have HS5 := Lib.hid (SIn.up s2 HWW.out)
            subst hA2
            clear s1 s2 hc2
            have HC := Lib.hid (fun d os => Calls.regrown_of (d := d) (os := os) (refSameFunc_calls a[n] b[n] hoe hoe2 _ _ _ _ (grow (redrawn wr d) os) (HS1.out.up (below_regrown wr d os)) (HS2.out.up (below_regrown wr d os)) (HS4.out.up (below_regrown wr d os)) (HS5.out.up (below_regrown wr d os))))
            have HSE := Lib.hid (show sameFn a[n] b[n] = eqFn a[n] b[n] by simp [sameFn, FA'.out _ (List.getElem_mem hlt), FB'.out _ (List.getElem_mem hlt2)])
            have HYY := Lib.hid (fun h : eqFn a[n] b[n] = true => take_erF_snoc HT.out hlt hlt2 (eqFn_yes h))
            have HN := Lib.hid (fun h : eqFn a[n] b[n] = false => eqFl_no hlt hlt2 h)
            generalize a[n] = x at *
            generalize b[n] = y at *
            have qp0 := fun d os => cell_regrown p0 d os
            have qq0 := fun d os => cell_regrown q0 d os
            have qa0 := fun d os => cell_regrown a0 d os
            have qa1 := fun d os => cell_regrown a1 d os
            have qa2 := fun d os => cell_regrown a2 d os
            have qa3 := fun d os => cell_regrown a3 d os
            have qa4 := fun d os => cell_regrown a4 d os
            have qb0 := fun d os => cell_regrown b0 d os
            have qb1 := fun d os => cell_regrown b1 d os
            have qb2 := fun d os => cell_regrown b2' d os
            have qb3 := fun d os => cell_regrown b3 d os
            have qb4 := fun d os => cell_regrown b4 d os
            clear a0 a1 a2 a3 a4 b0 b1 b2' b3 b4
            have c1 := HC.out
            rw [HSE.out] at c1
            cases he : eqFn x y with
            | true =>
              have HE := Lib.hid he
              simp only [he] at c1
              clear he
              have HC1 := Lib.hid c1
              clear c1
              go_wp2_with fail
              refine wp_region_quiet_below (by kernel_rfl) (by kernel_rfl) ?_
              repeat (first | go_big_quiet_step (with_reducible exact HC1.out _ _) | quiet_step (with_reducible exact HC1.out _ _))
              refine wpQuiet_nil ?_
              intro _ hw'
              obtain ⟨⟨dq, osq⟩, hw''⟩ := hw'
              subst hw''
              have HB4 := Lib.hid (after HW.out (below_regrown wr dq osq))
              go_wp2_with fail
              go_roundw
              case rel => exact ⟨n + 1, by omega, by go_num, HYY.out HE.out, HB4.out⟩
              case measure => simp [intOf]; omega
            | false =>
              have HE := Lib.hid he
              simp only [he] at c1
              clear he
              have HC1 := Lib.hid c1
              clear c1
              go_wp2_with fail
              refine wp_region_quiet_below (by kernel_rfl) (by kernel_rfl) ?_
              repeat (first | go_big_quiet_step (with_reducible exact HC1.out _ _) | quiet_step (with_reducible exact HC1.out _ _))
              refine wpQuiet_nil ?_
              intro _ hw'
              obtain ⟨⟨dq, osq⟩, hw''⟩ := hw'
              subst hw''
              have HB4 := Lib.hid (after HWW.out (below_regrown wr dq osq))
              go_wp2_with fail
              go_ret
              exact ⟨by rw [FE.out, HN.out HE.out]; rfl, HB4.out⟩
          · obtain rfl : n = a.length := by omega
            have HE := Lib.hid (show samePr a b = true by rw [FE.out]; exact eqFl_yes HL.out HT.out)
            go_wp2_with fail
            go_ret
            exact ⟨by rw [HE.out]; rfl, HWW.out⟩
      · have hl' : ((a.length : Int) != (b.length : Int)) = true := by simp; omega
        have F := Lib.hid (show samePr a b = false by rw [FE.out]; exact eqFl_len hl)
        clear hl
        go_enter Tryd.func27, Tryd.ntmps27
        go_wp2_with fail
        refine (refCheck_calls a _ _ (HA.out.up (bal2 _ _ _))).mono ?_
        rintro e w2 ⟨rfl, hb'⟩
        have HB2 := Lib.hid (after (bal2 _ _ _) hb')
        have hz2 : w.heap.size + 2 ≤ w2.heap.size := by have := hb'.size; simpa using this
        have HX1 := Lib.hid ((hb'.block w.heap.size (by simp; omega)).trans HX1.out)
        have HX2 := Lib.hid ((hb'.block (w.heap.size + 1) (by simp)).trans HX2.out)
        have r0 := cell_of_one HX2.out
        clear hb'
        rw [H1.out]
        go_wp2_with fail
        refine (refCheck_calls b _ _ (HB.out.up HB2.out)).mono ?_
        rintro e w3 ⟨rfl, hb'⟩
        have HB3 := Lib.hid (after HB2.out hb')
        have p0 := cell_of_one ((hb'.block w.heap.size (by omega)).trans HX1.out)
        have q0 := cell_of_one ((hb'.block (w.heap.size + 1) (by omega)).trans HX2.out)
        clear hb' r0
        rw [H2.out]
        go_wp2_with fail
        go_ret
        exact ⟨by rw [F.out]; rfl, HB3.out⟩
end Go.Proofs.YthiilnhiihfknaaDoor
