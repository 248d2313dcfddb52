/-
  The reference's stmts: the first difference is in kind. Written by gen3_refs.py.
-/
import Derived.Test.YthiilnhiihfknaaDoorSSame
import Derived.Test.YthiilnhiihfknaaDoorSSize
import Derived.Test.YthiilnhiihfknaaDoorSRefDepth
import Derived.Lib.QuietBelow
import Derived.BigQuiet
namespace Go.Proofs.YthiilnhiihfknaaDoor
open Go Go.RowKit Go.Sort

set_option maxRecDepth 100000 in
set_option maxHeartbeats 40000000 in

theorem refStmts_0 (la lb : List St) (ih : ∀ x : St, x ∈ la → (∀ (lb : List St) (va vb : Value) (w : World), SIn w w.heap.size x.body va → SIn w w.heap.size lb vb → Calls Tryd.prog 62 #[va, vb] w fun r w' => r = .returned (.bool (eqSl x.body lb)) ∧ Below w.heap.size w w') ∧ (∀ (lb : List St) (va vb : Value) (w : World), SIn w w.heap.size x.els va → SIn w w.heap.size lb vb → Calls Tryd.prog 62 #[va, vb] w fun r w' => r = .returned (.bool (eqSl x.els lb)) ∧ Below w.heap.size w w')) (hl : la.length = lb.length) (m : Nat) (hm1 : m < la.length) (hm2 : m < lb.length) (heq : (la.take m).map erS = (lb.take m).map erS) (f0 : la[m].kind ≠ lb[m].kind) (va vb : Value) (w : World) (hA : SIn w w.heap.size la va) (hB : SIn w w.heap.size lb vb) :
    Calls Tryd.prog 62 #[va, vb] w fun r w' => r = .returned (.bool false) ∧ Below w.heap.size w w' := by
  obtain ⟨A1, c1, rfl⟩ := hA.slice
  obtain ⟨A2, c2, rfl⟩ := hB.slice
  have l1 := hA.le
  have l2 := hB.le
  have HA := Lib.hid hA
  have HB := Lib.hid hB
  have IH := Lib.hid ih
  have HQ := Lib.hid heq
  have hl' : ((la.length : Int) != (lb.length : Int)) = false := by simp [hl]
  have HL := Lib.hid hl
  have hle : la.length ≤ lb.length := by omega
  have F0 := Lib.hid f0
  clear f0
  clear hA hB ih heq hl
  go_enter Tryd.func62, Tryd.ntmps62
  simp only [List.append_eq, List.cons_append, List.nil_append]
  go_wp2_with fail
  go_loopw [5] (fun i wr => ∃ n : Nat, n ≤ m ∧ i = .int .i64 n ∧ Below w.heap.size w wr) (fun i _ => la.length - (intOf i).toNat)
  case atStart => exact ⟨0, by omega, rfl, Below.refl _ _⟩
  case round =>
    obtain ⟨n, hn, rfl, hbw⟩ := hrel
    have HW := Lib.hid hbw
    clear hbw
    by_cases hltm : n < m
    · have hlt : n < la.length := by omega
      have hlt2 : n < lb.length := by omega
      have hxy : erS la[n] = erS lb[n] := by
        have := congrArg (fun l => l[n]?) HQ.out
        simpa [hlt, hlt2, hltm, List.getElem?_take] using this
      obtain ⟨b, o, va, vb, ve, hA, hbl, hoe, hc, s1, s2, s3⟩ := (HA.out.at_).2 n hlt
      obtain ⟨a0, a1, a2, a3, a4, a5, a6, a7⟩ := hc.keep (fun i => HW.out.cell (p := ⟨b, i, none⟩) hbl)
      obtain ⟨A', c', rfl⟩ := s1.slice
      obtain ⟨A4, c4, rfl⟩ := s2.slice
      obtain ⟨A5, c5, rfl⟩ := s3.slice
      have HS1 := Lib.hid (EIn.up s1 HW.out)
      have HS2 := Lib.hid (SIn.up s2 HW.out)
      have HS3 := Lib.hid (SIn.up s3 HW.out)
      subst hA
      clear s1 s2 s3 hc
      obtain ⟨b2, o2, va2, vb2, ve2, hA2, hbl2, hoe2, hc2, s1, s2, s3⟩ := (HB.out.at_).2 n hlt2
      obtain ⟨b0, b1, b2', b3, b4, b5, b6, b7⟩ := hc2.keep (fun i => HW.out.cell (p := ⟨b2, i, none⟩) hbl2)
      obtain ⟨A6, c6, rfl⟩ := s1.slice
      obtain ⟨A7, c7, rfl⟩ := s2.slice
      obtain ⟨A8, c8, rfl⟩ := s3.slice
      have HT1 := Lib.hid (EIn.up s1 HW.out)
      have HT2 := Lib.hid (SIn.up s2 HW.out)
      have HT3 := Lib.hid (SIn.up s3 HW.out)
      subst hA2
      clear s1 s2 s3 hc2
      have hC := IH.out la[n] (List.getElem_mem hlt)
      have E0 := Lib.hid (erS_kind hxy)
      have E1 := Lib.hid (erS_name hxy)
      have E2 := Lib.hid (erS_typ hxy)
      have E3 := Lib.hid (erS_callee hxy)
      have E4 := Lib.hid (show eqEs la[n].args lb[n].args = true by simp [eqEs, erS_args hxy])
      have E5 := Lib.hid (eqSl_of (erS_body hxy))
      have E6 := Lib.hid (eqSl_of (erS_els hxy))
      clear hxy
      generalize la[n] = x at *
      generalize lb[n] = y at *
      have HC2 := Lib.hid (hC.1 y.body)
      have HC3 := Lib.hid (hC.2 y.els)
      clear hC
      have qa0 := fun d os => cell_regrown a0 d os
      have qa1 := fun d os => cell_regrown a1 d os
      have qa2 := fun d os => cell_regrown a2 d os
      have qa3 := fun d os => cell_regrown a3 d os
      have qa4 := fun d os => cell_regrown a4 d os
      have qa5 := fun d os => cell_regrown a5 d os
      have qa6 := fun d os => cell_regrown a6 d os
      have qa7 := fun d os => cell_regrown a7 d os
      have qb0 := fun d os => cell_regrown b0 d os
      have qb1 := fun d os => cell_regrown b1 d os
      have qb2 := fun d os => cell_regrown b2' d os
      have qb3 := fun d os => cell_regrown b3 d os
      have qb4 := fun d os => cell_regrown b4 d os
      have qb5 := fun d os => cell_regrown b5 d os
      have qb6 := fun d os => cell_regrown b6 d os
      have qb7 := fun d os => cell_regrown b7 d os
      clear a0 a1 a2 a3 a4 a5 a6 a7 b0 b1 b2' b3 b4 b5 b6 b7
      have g0 : (x.kind != y.kind) = false := by simpa using E0.out
      have g1 : (x.name != y.name) = false := by simpa using E1.out
      have g1b : (x.name == y.name) = true := by simpa using E1.out
      have g2 : (x.typ != y.typ) = false := by simpa using E2.out
      have g3 : (x.callee != y.callee) = false := by simpa using E3.out
      have g3b : (x.callee == y.callee) = true := by simpa using E3.out
      have cE := fun d os => Calls.regrown_of (d := d) (os := os) (refExprs_calls x.args y.args _ _ (grow (redrawn wr d) os) (HS1.out.up (below_regrown wr d os)) (HT1.out.up (below_regrown wr d os)))
      simp only [E4.out] at cE
      have cB := fun d os => Calls.regrown_of (d := d) (os := os) (HC2.out _ _ (grow (redrawn wr d) os) (HS2.out.up (below_regrown wr d os)) (HT2.out.up (below_regrown wr d os)))
      simp only [E5.out] at cB
      have cS := fun d os => Calls.regrown_of (d := d) (os := os) (HC3.out _ _ (grow (redrawn wr d) os) (HS3.out.up (below_regrown wr d os)) (HT3.out.up (below_regrown wr d os)))
      simp only [E6.out] at cS
      go_wp2_with fail
      refine wp_region_quiet_below (by kernel_rfl) (by kernel_rfl) ?_
      repeat (first | go_big_quiet_step (first | with_reducible exact cE _ _ | with_reducible exact cB _ _ | with_reducible exact cS _ _) | quiet_step (first | with_reducible exact cE _ _ | with_reducible exact cB _ _ | with_reducible exact cS _ _))
      refine wpQuiet_nil ?_
      intro _ hw'
      obtain ⟨⟨dq, osq⟩, hw''⟩ := hw'
      subst hw''
      have HB2 := Lib.hid (after HW.out (below_regrown wr dq osq))
      go_wp2_with fail
      go_roundw
      case rel => exact ⟨n + 1, by omega, by go_num, HB2.out⟩
      case measure => simp [intOf]; omega
    · obtain rfl : n = m := by omega
      have hlt := hm1
      have hlt2 := hm2
      obtain ⟨b, o, va, vb, ve, hA, hbl, hoe, hc, s1, s2, s3⟩ := (HA.out.at_).2 n hlt
      obtain ⟨a0, a1, a2, a3, a4, a5, a6, a7⟩ := hc.keep (fun i => HW.out.cell (p := ⟨b, i, none⟩) hbl)
      obtain ⟨A', c', rfl⟩ := s1.slice
      obtain ⟨A4, c4, rfl⟩ := s2.slice
      obtain ⟨A5, c5, rfl⟩ := s3.slice
      have HS1 := Lib.hid (EIn.up s1 HW.out)
      have HS2 := Lib.hid (SIn.up s2 HW.out)
      have HS3 := Lib.hid (SIn.up s3 HW.out)
      subst hA
      clear s1 s2 s3 hc
      obtain ⟨b2, o2, va2, vb2, ve2, hA2, hbl2, hoe2, hc2, s1, s2, s3⟩ := (HB.out.at_).2 n hlt2
      obtain ⟨b0, b1, b2', b3, b4, b5, b6, b7⟩ := hc2.keep (fun i => HW.out.cell (p := ⟨b2, i, none⟩) hbl2)
      obtain ⟨A6, c6, rfl⟩ := s1.slice
      obtain ⟨A7, c7, rfl⟩ := s2.slice
      obtain ⟨A8, c8, rfl⟩ := s3.slice
      have HT1 := Lib.hid (EIn.up s1 HW.out)
      have HT2 := Lib.hid (SIn.up s2 HW.out)
      have HT3 := Lib.hid (SIn.up s3 HW.out)
      subst hA2
      clear s1 s2 s3 hc2
      have hC := IH.out la[n] (List.getElem_mem hlt)
      have E0 := Lib.hid F0.out
      clear F0
      generalize la[n] = x at *
      generalize lb[n] = y at *
      have HC2 := Lib.hid (hC.1 y.body)
      have HC3 := Lib.hid (hC.2 y.els)
      clear hC
      have qa0 := fun d os => cell_regrown a0 d os
      have qa1 := fun d os => cell_regrown a1 d os
      have qa2 := fun d os => cell_regrown a2 d os
      have qa3 := fun d os => cell_regrown a3 d os
      have qa4 := fun d os => cell_regrown a4 d os
      have qa5 := fun d os => cell_regrown a5 d os
      have qa6 := fun d os => cell_regrown a6 d os
      have qa7 := fun d os => cell_regrown a7 d os
      have qb0 := fun d os => cell_regrown b0 d os
      have qb1 := fun d os => cell_regrown b1 d os
      have qb2 := fun d os => cell_regrown b2' d os
      have qb3 := fun d os => cell_regrown b3 d os
      have qb4 := fun d os => cell_regrown b4 d os
      have qb5 := fun d os => cell_regrown b5 d os
      have qb6 := fun d os => cell_regrown b6 d os
      have qb7 := fun d os => cell_regrown b7 d os
      clear a0 a1 a2 a3 a4 a5 a6 a7 b0 b1 b2' b3 b4 b5 b6 b7
      have g0 : (x.kind != y.kind) = true := by simpa using E0.out
      go_wp2_with fail
      refine wp_region_quiet_below (by kernel_rfl) (by kernel_rfl) ?_
      repeat (first | go_big_quiet_step (fail) | quiet_step (fail))
      refine wpQuiet_nil ?_
      intro _ hw'
      obtain ⟨⟨dq, osq⟩, hw''⟩ := hw'
      subst hw''
      have HB2 := Lib.hid (after HW.out (below_regrown wr dq osq))
      go_wp2_with fail
      go_ret
      exact ⟨rfl, HB2.out⟩
end Go.Proofs.YthiilnhiihfknaaDoor
