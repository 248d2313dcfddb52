/-
  ShapeExprs returns true.
-/
import Derived.Test.YthiilnhiihfknaaDoorSLaw
import Derived.BigQuiet
namespace Go.Proofs.YthiilnhiihfknaaDoor
open Go Go.RowKit Go.Sort

set_option maxRecDepth 100000 in
set_option maxHeartbeats 20000000 in
theorem shapeExprs_calls (s : Bytes) (hs : s.length ≤ 9223372036854775807) (a b : Ex) (ha : OkE a) (hb : OkE b) (va vb : Value) (w : World) (hA : EIn w w.heap.size a.args va) (hB : EIn w w.heap.size b.args vb) (hG : Glob w) :
    Calls Tryd.prog 3 #[.string (B s), eV a va, eV b vb] w fun e w' => e = .returned (.bool true) ∧ Below w.heap.size w w' := by
  obtain ⟨A1, n1, rfl⟩ := hA.slice
  obtain ⟨A2, n2, rfl⟩ := hB.slice
  have HG := Lib.hid (hG.up (bal2 w (eO a (.slice A1 a.args.length n1)) (eO b (.slice A2 b.args.length n2))))
  have HA := Lib.hid ((hA.up (bal2 w (eO a (.slice A1 a.args.length n1)) (eO b (.slice A2 b.args.length n2)))))
  have HB := Lib.hid ((hB.up (bal2 w (eO a (.slice A1 a.args.length n1)) (eO b (.slice A2 b.args.length n2)))))
  have HW := Lib.hid (bal2 w (eO a (.slice A1 a.args.length n1)) (eO b (.slice A2 b.args.length n2)))
  have XA := Lib.hid ((EBox.new w a (.slice A1 a.args.length n1)).keep (bal (w.alloc (eO a (.slice A1 a.args.length n1))) (eO b (.slice A2 b.args.length n2))) (by simp))
  have XB := Lib.hid (EBox.new (w.alloc (eO a (.slice A1 a.args.length n1))) b (.slice A2 b.args.length n2))
  have hsz : ((w.alloc (eO a (.slice A1 a.args.length n1))).alloc (eO b (.slice A2 b.args.length n2))).heap.size = w.heap.size + 2 := by rw [sz1, sz1]
  rw [sz1] at XB
  clear hA hB hG
  go_enter Tryd.func3, Tryd.ntmps3
  by_cases hl : (100 : Int) < (s.length : Int)
  · go_wp2_with fail
    refine (works_calls _ HG.out).mono ?_
    rintro e w1 ⟨rfl, hb1⟩
    have HZ := Lib.hid (after HW.out hb1)
    clear hb1
    go_wp2_with fail
    exact bodyPost_ret (v := .bool true) (by simp [results, Tryd.results3, go_sem]) rfl ⟨rfl, HZ.out⟩
  · obtain ⟨a0, a1, a2, a3, a4⟩ := XA.out
    obtain ⟨b0, b1, b2, b3, b4⟩ := XB.out
    go_wp2_with fail
    generalize ((w.alloc (eO a (.slice A1 a.args.length n1))).alloc (eO b (.slice A2 b.args.length n2))) = H at *
    have NA := EBox.new H a (.slice A1 a.args.length n1)
    rw [hsz] at NA
    refine (lawExprs_all _ [a] (Nat.lt_succ_self _) 500 _ _ (by omega) (EIn.one (v := .slice A1 a.args.length n1) (by rw [sz1, hsz]; omega) ha NA (HA.out.al _))).mono ?_
    rintro e H1 ⟨r1, hr1, rfl, hb1⟩
    have HH := Lib.hid (after (bal H _) hb1)
    clear hb1 NA a0 a1 a2 a3 a4 b0 b1 b2 b3 b4
    have hz1 := HH.out.size
    by_cases h1 : (500 : Int) < (r1 : Int)
    · go_wp2_with fail
      refine (works_calls _ (HG.out.up HH.out)).mono ?_
      rintro e w1 ⟨rfl, hb1⟩
      have HZ := Lib.hid (after HW.out (after HH.out hb1))
      clear hb1
      go_wp2_with fail
      exact bodyPost_ret (v := .bool true) (by simp [results, Tryd.results3, go_sem]) rfl ⟨rfl, HZ.out⟩
    · obtain ⟨b0, b1, b2, b3, b4⟩ := XB.out.keep HH.out (by omega)
      go_wp2_with fail
      have NB := EBox.new H1 b (.slice A2 b.args.length n2)
      refine (lawExprs_all _ [b] (Nat.lt_succ_self _) 500 _ _ (by omega) (EIn.one (v := .slice A2 b.args.length n2) (by rw [sz1]; omega) hb NB ((HB.out.up HH.out).al _))).mono ?_
      rintro e H2 ⟨r2, hr2, rfl, hb1⟩
      have HH := Lib.hid (after HH.out (after (bal H1 _) hb1))
      clear hb1 NB b0 b1 b2 b3 b4
      have hz2 := HH.out.size
      have HW := Lib.hid (after HW.out HH.out)
      have HG := Lib.hid (HG.out.up HH.out)
      by_cases h2 : (500 : Int) < (r2 : Int)
      · go_wp2_with fail
        refine (works_calls _ HG.out).mono ?_
        rintro e w1 ⟨rfl, hb1⟩
        have HZ := Lib.hid (after HW.out hb1)
        clear hb1
        go_wp2_with fail
        exact bodyPost_ret (v := .bool true) (by simp [results, Tryd.results3, go_sem]) rfl ⟨rfl, HZ.out⟩
      · have HA := Lib.hid (HA.out.up HH.out)
        have HB := Lib.hid (HB.out.up HH.out)
        obtain ⟨a0, a1, a2, a3, a4⟩ := XA.out.keep HH.out (by omega)
        obtain ⟨b0, b1, b2, b3, b4⟩ := XB.out.keep HH.out (by omega)
        have qa0 := fun d os => cell_regrown a0 d os
        have qa1 := fun d os => cell_regrown a1 d os
        have qa2 := fun d os => cell_regrown a2 d os
        have qa3 := fun d os => cell_regrown a3 d os
        have qa4 := fun d os => cell_regrown a4 d os
        have qb0 := fun d os => cell_regrown b0 d os
        have qb1 := fun d os => cell_regrown b1 d os
        have qb2 := fun d os => cell_regrown b2 d os
        have qb3 := fun d os => cell_regrown b3 d os
        have qb4 := fun d os => cell_regrown b4 d os
        clear a0 a1 a2 a3 a4 b0 b1 b2 b3 b4
        have gG := fun d os => HG.out.up (below_regrown H2 d os)
        have gA := fun d os => HA.out.up (below_regrown H2 d os)
        have gB := fun d os => HB.out.up (below_regrown H2 d os)
        have c1 := fun d os => Calls.regrown_of (d := d) (os := os) ((name_calls s hs (grow (redrawn H2 d) os) (gG d os).kw).mono (by rintro e w' ⟨rfl, rfl⟩; exact ⟨rfl, Below.refl _ _⟩))
        have c2 := fun d os => Calls.regrown_of (d := d) (os := os) (refName_calls s hs (grow (redrawn H2 d) os))
        have c3 := fun d os => Calls.regrown_of (d := d) (os := os) (expr_calls a ha _ (grow (redrawn H2 d) os) (gA d os) (gG d os))
        have c4 := fun d os => Calls.regrown_of (d := d) (os := os) (refExpr_calls a ha _ (grow (redrawn H2 d) os) (gA d os))
        have c5 := fun d os => Calls.regrown_of (d := d) (os := os) (depth_calls a ha _ (grow (redrawn H2 d) os) (gA d os) (gG d os))
        have c6 := fun d os => Calls.regrown_of (d := d) (os := os) (refDepth_calls a ha _ (grow (redrawn H2 d) os) (gA d os))
        have c7 := fun d os => Calls.regrown_of (d := d) (os := os) (sameExpr_calls a b ha hb _ _ (grow (redrawn H2 d) os) (gA d os) (gB d os) (gG d os))
        have c8 := fun d os => Calls.regrown_of (d := d) (os := os) (refSameExpr_calls a b ha hb _ _ (grow (redrawn H2 d) os) (gA d os) (gB d os))
        have c9 := fun d os => Calls.regrown_of (d := d) (os := os) (works_calls (grow (redrawn H2 d) os) (gG d os))
        have g1 : (nameB s == nameB s) = true := by simp
        have g2 : (errI (exB a) == errI (exB a)) = true := by simp
        have g3 : (((dep 20 a : Nat) : Int) == ((dep 20 a : Nat) : Int)) = true := by simp
        have g4 : (sameE a b == sameE a b) = true := by simp
        generalize nameB s = z1 at *
        generalize errI (exB a) = z2 at *
        generalize ((dep 20 a : Nat) : Int) = z3 at *
        generalize sameE a b = z4 at *
        clear gG gA gB
        have HC1 := Lib.hid c1
        have HC2 := Lib.hid c2
        have HC3 := Lib.hid c3
        have HC4 := Lib.hid c4
        have HC5 := Lib.hid c5
        have HC6 := Lib.hid c6
        have HC7 := Lib.hid c7
        have HC8 := Lib.hid c8
        have HC9 := Lib.hid c9
        clear c1 c2 c3 c4 c5 c6 c7 c8 c9
        go_wp2_with fail
        refine wp_region_quiet_below (by kernel_rfl) (by kernel_rfl) ?_
        repeat (first | go_big_quiet_step (first | with_reducible exact HC1.out _ _ | with_reducible exact HC2.out _ _ | with_reducible exact HC3.out _ _ | with_reducible exact HC4.out _ _ | with_reducible exact HC5.out _ _ | with_reducible exact HC6.out _ _ | with_reducible exact HC7.out _ _ | with_reducible exact HC8.out _ _ | with_reducible exact HC9.out _ _) | quiet_step (first | with_reducible exact HC1.out _ _ | with_reducible exact HC2.out _ _ | with_reducible exact HC3.out _ _ | with_reducible exact HC4.out _ _ | with_reducible exact HC5.out _ _ | with_reducible exact HC6.out _ _ | with_reducible exact HC7.out _ _ | with_reducible exact HC8.out _ _ | with_reducible exact HC9.out _ _))
        refine wpQuiet_nil ?_
        intro _ hw'
        obtain ⟨⟨dq, osq⟩, hw''⟩ := hw'
        subst hw''
        have HZ := Lib.hid (after HW.out (below_regrown H2 dq osq))
        go_wp2_with fail
        exact bodyPost_ret (v := .bool true) (by simp [results, Tryd.results3, go_sem]) rfl ⟨rfl, HZ.out⟩
end Go.Proofs.YthiilnhiihfknaaDoor
