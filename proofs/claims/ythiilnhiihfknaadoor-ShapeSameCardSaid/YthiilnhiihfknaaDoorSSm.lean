/-
  ShapeSame: the law's walk.
-/
import Derived.Test.YthiilnhiihfknaaDoorSSrcF
import Derived.Deep.RegionWith
import Derived.Deep.DeepCutAuto
import Derived.Test.YthiilnhiihfknaaDoorSWorks
import Derived.Lib.QuietBelow
import Derived.BigQuiet
namespace Go.Proofs.YthiilnhiihfknaaDoor
open Go Go.RowKit Go.Sort

theorem numbP_len0 (l : List Fn) : (numbP l).length ≤ 20 := by
  unfold numbP
  cases h : fnsB l with
  | false => simp
  | true =>
    simp only [fnsB, Bool.and_eq_true, decide_eq_true_eq] at h
    simpa using h.1
set_option maxRecDepth 100000 in
set_option maxHeartbeats 20000000 in
theorem shapeSame_calls (la lb lc : Bytes) (va vb vc : Value) (n : Nat) (hn : n ≤ 255) (w : World) (ha : DrIn w la va) (hb : DrIn w lb vb) (hc : DrIn w lc vc) (hG : Glob w) :
    Calls Tryd.prog 10 #[va, vb, vc, .int .u8 (n : Int)] w fun e w' => e = .returned (.bool true) ∧ Below w.heap.size w w' := by
  have HA := Lib.hid ha
  have HB := Lib.hid hb
  have HC := Lib.hid hc
  have HG := Lib.hid hG
  clear ha hb hc hG
  go_enter Tryd.func10, Tryd.ntmps10
  go_wp2_with fail
  refine (made_calls la _ _ HA.out).mono ?_
  rintro e w1 hm
  obtain ⟨g1, k1, V1, rfl, hb1, hgw0, hp1⟩ := hm.at_
  have HB1 := Lib.hid hb1
  have HP1 := Lib.hid hp1
  clear hm hb1 hp1
  go_wp2_with fail
  refine (made_calls lb _ _ (HB.out.up HB1.out)).mono ?_
  rintro e w2 hm
  obtain ⟨g2, k2, V2, rfl, hb2, _, hp2⟩ := hm.at_
  have HB2 := Lib.hid (after HB1.out hb2)
  have HP1 := Lib.hid (HP1.out.bel hb2)
  have HP2 := Lib.hid hp2
  clear hm hb2 hp2
  go_wp2_with fail
  refine (made_calls lc _ _ (HC.out.up HB2.out)).mono ?_
  rintro e w3 hm
  obtain ⟨g3, k3, V3, rfl, hb3, _, hp3⟩ := hm.at_
  have HB3 := Lib.hid (after HB2.out hb3)
  have HP1 := Lib.hid (HP1.out.bel hb3)
  have HP2 := Lib.hid (HP2.out.bel hb3)
  have HP3 := Lib.hid hp3
  have hg1 : g1 < w3.heap.size := HP1.out.row.lt
  clear hm hb3 hp3
  go_upto_region 2 with fail
  have hl1 := madeD_len la
  have HCP := Lib.hid (madeD_check la)
  have HCQ := Lib.hid (madeD_check lb)
  have HCR := Lib.hid (madeD_check lc)
  generalize hP : madeD la = P at *
  have HPe := Lib.hid hP
  clear hP
  generalize madeD lb = Q at *
  generalize madeD lc = R at *
  obtain ⟨b9, b10, b11, b4⟩ := three w3 (.cells #[.slice (some ⟨g1, 0, none⟩) P.length k1] 35) (.cells #[.slice (some ⟨g2, 0, none⟩) Q.length k2] 35) (.cells #[.slice (some ⟨g3, 0, none⟩) R.length k3] 35)
  have hb4 := bal3 w3 (.cells #[.slice (some ⟨g1, 0, none⟩) P.length k1] 35) (.cells #[.slice (some ⟨g2, 0, none⟩) Q.length k2] 35) (.cells #[.slice (some ⟨g3, 0, none⟩) R.length k3] 35)
  have c9 := cell_of_one b9
  have c10 := cell_of_one b10
  have c11 := cell_of_one b11
  have HB4 := Lib.hid (after HB3.out hb4)
  have HP1 := Lib.hid (HP1.out.bel hb4)
  have HP2 := Lib.hid (HP2.out.bel hb4)
  have HP3 := Lib.hid (HP3.out.bel hb4)
  have HL9 := Lib.hid b9
  have hzl : w3.heap.size < (((w3.alloc (.cells #[.slice (some ⟨g1, 0, none⟩) P.length k1] 35)).alloc (.cells #[.slice (some ⟨g2, 0, none⟩) Q.length k2] 35)).alloc (.cells #[.slice (some ⟨g3, 0, none⟩) R.length k3] 35)).heap.size := lt_of_block b9
  clear b9 b10 b11 b4 hb4
  generalize (((w3.alloc (.cells #[.slice (some ⟨g1, 0, none⟩) P.length k1] 35)).alloc (.cells #[.slice (some ⟨g2, 0, none⟩) Q.length k2] 35)).alloc (.cells #[.slice (some ⟨g3, 0, none⟩) R.length k3] 35)) = w4 at *
  go_cut [48] (fun s48 wx => s48 = .bool false ∧ ∃ dq osq, wx = grow (redrawn w4 dq) osq)
  case first =>
    have q9 := fun d os => cell_regrown c9 d os
    have q10 := fun d os => cell_regrown c10 d os
    have q11 := fun d os => cell_regrown c11 d os
    have hs : ∀ (a b : List Fn) (va vb : Value), FIn w4 w4.heap.size a va → FIn w4 w4.heap.size b vb → ∀ d os, Calls Tryd.prog 26 #[.agg #[va], .agg #[vb]] (grow (redrawn w4 d) os) fun e w'' => e = .returned (.bool (samePr a b)) ∧ ∃ p : Regrown, w'' = grow (redrawn w4 p.d) p.os := fun a b va vb h1 h2 d os =>
      Calls.regrown_of (same_calls a b va vb _ (h1.up (below_regrown w4 d os)) (h2.up (below_regrown w4 d os)) (HG.out.up (HB4.out.trans ((below_regrown w4 d os).mono HB4.out.size))))
    have e11 : samePr P P = true := samePr_refl HCP.out
    have e12 : samePr P Q = eqFl P Q := samePr_eq HCP.out HCQ.out
    have e21 : samePr Q P = eqFl P Q := (samePr_eq HCQ.out HCP.out).trans (eqFl_comm Q P)
    have e23 : samePr Q R = eqFl Q R := samePr_eq HCQ.out HCR.out
    have e13 : samePr P R = eqFl P R := samePr_eq HCP.out HCR.out
    have s11 := hs P P _ _ HP1.out.fin HP1.out.fin
    have s12 := hs P Q _ _ HP1.out.fin HP2.out.fin
    have s21 := hs Q P _ _ HP2.out.fin HP1.out.fin
    have s23 := hs Q R _ _ HP2.out.fin HP3.out.fin
    have s13 := hs P R _ _ HP1.out.fin HP3.out.fin
    simp only [e11] at s11
    simp only [e12] at s12
    simp only [e21] at s21
    simp only [e23] at s23
    simp only [e13] at s13
    clear hs e11 e12 e21 e23 e13 c9 c10 c11
    have hcase : eqFl P Q = false ∨ (eqFl P Q = true ∧ eqFl Q R = false) ∨ (eqFl P Q = true ∧ eqFl Q R = true ∧ eqFl P R = true) := by
      cases hx : eqFl P Q with
      | false => exact .inl rfl
      | true =>
        cases hy : eqFl Q R with
        | false => exact .inr (.inl ⟨rfl, rfl⟩)
        | true => exact .inr (.inr ⟨rfl, rfl, eqFl_trans hx hy⟩)
    rcases hcase with hx | ⟨hx, hy⟩ | ⟨hx, hy, hz⟩
    · simp only [hx] at s12 s21
      have S11 := Lib.hid s11
      have S12 := Lib.hid s12
      have S21 := Lib.hid s21
      clear s11 s12 s21 s23 s13 hx
      refine wp_region_quiet_below (by kernel_rfl) (by kernel_rfl) ?_
      repeat (first | go_big_quiet_step (first | with_reducible exact S11.out _ _ | with_reducible exact S12.out _ _ | with_reducible exact S21.out _ _) | quiet_step (first | with_reducible exact S11.out _ _ | with_reducible exact S12.out _ _ | with_reducible exact S21.out _ _))
      refine wpQuiet_nil ?_
      intro _ hw'
      obtain ⟨⟨dq, osq⟩, hw''⟩ := hw'
      subst hw''
      go_wp2_with fail
      go_meet
      exact ⟨rfl, _, _, rfl⟩
    · simp only [hx] at s12 s21
      simp only [hy] at s23
      have S11 := Lib.hid s11
      have S12 := Lib.hid s12
      have S21 := Lib.hid s21
      have S23 := Lib.hid s23
      clear s11 s12 s21 s23 s13 hx hy
      refine wp_region_quiet_below (by kernel_rfl) (by kernel_rfl) ?_
      repeat (first | go_big_quiet_step (first | with_reducible exact S11.out _ _ | with_reducible exact S12.out _ _ | with_reducible exact S21.out _ _ | with_reducible exact S23.out _ _) | quiet_step (first | with_reducible exact S11.out _ _ | with_reducible exact S12.out _ _ | with_reducible exact S21.out _ _ | with_reducible exact S23.out _ _))
      refine wpQuiet_nil ?_
      intro _ hw'
      obtain ⟨⟨dq, osq⟩, hw''⟩ := hw'
      subst hw''
      go_wp2_with fail
      go_meet
      exact ⟨rfl, _, _, rfl⟩
    · simp only [hx] at s12 s21
      simp only [hy] at s23
      simp only [hz] at s13
      have S11 := Lib.hid s11
      have S12 := Lib.hid s12
      have S21 := Lib.hid s21
      have S23 := Lib.hid s23
      have S13 := Lib.hid s13
      clear s11 s12 s21 s23 s13 hx hy hz
      refine wp_region_quiet_below (by kernel_rfl) (by kernel_rfl) ?_
      repeat (first | go_big_quiet_step (first | with_reducible exact S11.out _ _ | with_reducible exact S12.out _ _ | with_reducible exact S21.out _ _ | with_reducible exact S23.out _ _ | with_reducible exact S13.out _ _) | quiet_step (first | with_reducible exact S11.out _ _ | with_reducible exact S12.out _ _ | with_reducible exact S21.out _ _ | with_reducible exact S23.out _ _ | with_reducible exact S13.out _ _))
      refine wpQuiet_nil ?_
      intro _ hw'
      obtain ⟨⟨dq, osq⟩, hw''⟩ := hw'
      subst hw''
      go_wp2_with fail
      go_meet
      exact ⟨rfl, _, _, rfl⟩
  case rest =>
    obtain ⟨rfl, dq, osq, rfl⟩ := hcut
    have q9 := fun d os => cell_regrown c9 d os
    have HB5 := Lib.hid (HB4.out.trans ((below_regrown w4 dq osq).mono HB4.out.size))
    have HP5 := Lib.hid (HP1.out.bel (below_regrown w4 dq osq))
    have c9 := q9 dq osq
    have hzl5 : w3.heap.size < (grow (redrawn w4 dq) osq).heap.size := Nat.lt_of_lt_of_le hzl (below_regrown w4 dq osq).size
    clear q9 c10 c11 HP1 HP2 HP3 HB4 hzl
    generalize grow (redrawn w4 dq) osq = w5 at *
    go_wp2_with fail
    have hi : n % P.length < P.length := Nat.mod_lt _ (by omega)
    have hr : ((n : Int)).tmod (P.length : Int) = ((n % P.length : Nat) : Int) := by
      rw [Int.tmod_eq_emod_of_nonneg (by omega)]; exact (Int.natCast_emod _ _).symm
    have hP0 : (P.length : Int) ≠ 0 := by omega
    generalize n % P.length = i at *
    have hi1 : (0 : Int) ≤ (i : Int) := by omega
    have hi2 : (i : Int) < (P.length : Int) := by omega
    have q9 := fun d os => cell_regrown c9 d os
    clear c9
    refine wp_region_quiet_below (by kernel_rfl) (by kernel_rfl) ?_
    repeat (first | go_big_quiet_step (fail) | quiet_step (fail))
    refine wpQuiet_nil ?_
    intro _ hw'
    obtain ⟨⟨dr, osr⟩, hw''⟩ := hw'
    subst hw''
    have HB6 := Lib.hid (HB5.out.trans ((below_regrown w5 dr osr).mono HB5.out.size))
    have HP6 := Lib.hid (HP5.out.bel (below_regrown w5 dr osr))
    have c9 := q9 dr osr
    have hzl6 : w3.heap.size < (grow (redrawn w5 dr) osr).heap.size := Nat.lt_of_lt_of_le hzl5 (below_regrown w5 dr osr).size
    clear q9 HP5 HB5 hr hP0 hi1 hi2 hzl5
    generalize grow (redrawn w5 dr) osr = w6 at *
    have hget : P[i]? = some P[i] := List.getElem?_eq_getElem hi
    have HGET := Lib.hid hget
    have hpt := HP6.out.part i _ hget
    have hcap := HP6.out.cap i _ hget
    obtain ⟨x0, x1, x2, x3, x4⟩ := HP6.out.cells hget
    obtain ⟨Ap, cp, hvp⟩ := hpt.p.slice
    obtain ⟨Ab, cb, hvb⟩ := hpt.b.slice
    have hcb : P[i].body.length ≤ cb := hcap _ _ _ hvb
    have HPB := Lib.hid hpt
    have HVP := Lib.hid hvp
    have HVB := Lib.hid hvb
    rw [hvp] at x1
    rw [hvb] at x3
    have fg := HP6.out.row.free
    have hgw : g1 < w6.heap.size := HP6.out.row.lt
    have hbl : P[i].body.length ≤ 9223372036854775807 := by have := hpt.b.keep (R' := fun b => b < w6.heap.size) (fun b hb => hb.1) (fun _ _ _ => rfl); exact SIn.le this
    clear hget hpt hvp hvb hcap
    by_cases h0 : P[i].body.length = 0
    · have h0' : ((P[i].body.length : Int) == 0) = true := by simp [h0]
      clear h0
      generalize P[i] = F at *
      go_wp2_with fail
      refine (works_calls _ (HG.out.up HB6.out)).mono ?_
      rintro e w7 ⟨rfl, hb7⟩
      have HB7 := Lib.hid (after HB6.out hb7)
      clear hb7
      go_wp2_with fail
      go_ret
      exact ⟨rfl, HB7.out⟩
    · have h0' : ((P[i].body.length : Int) == 0) = false := by rw [beq_eq_false_iff_ne]; omega
      have h1 : 1 ≤ P[i].body.length := by omega
      have HCUT := Lib.hid (fun (f : Fn) (h : f.body.length ≠ P[i].body.length) => same_cut hi h)
      clear h0
      generalize P[i] = F at *
      by_cases hc1 : cb = 1
      · obtain ⟨b0, o0, rfl⟩ : ∃ b0 o0, Ab = some ⟨b0, o0, none⟩ := by
          have h := HPB.out.b
          rw [HVB.out] at h
          cases h with
          | mk _ _ _ Va Vb Ve hlen hc ha hb he =>
            obtain ⟨b, o, h1, _⟩ := hc 0 _ (List.getElem?_eq_getElem (by omega))
            exact ⟨b, o, h1⟩
        subst hc1
        have hb1 : F.body.length = 1 := by omega
        have HB1L := Lib.hid hb1
        have HVP2 := Lib.hid (show PIn w6 w6.heap.size F.params (.slice Ap F.params.length cp) by
          have h := HPB.out.p
          rw [HVP.out] at h
          exact h.keep (fun b hb => hb.1) fun _ _ _ => rfl)
        have HVB2 := Lib.hid (show SR w6 (fun b => b < w6.heap.size ∧ b ≠ g1) F.body (.slice (some ⟨b0, o0, none⟩) F.body.length 1) by
          have h := HPB.out.b
          rwa [HVB.out] at h)
        have hpl := HVP2.out.le
        have hp7 := HP6.out.setBody HGET.out (SR.one_none (c' := 0) (A' := some ⟨b0, o0, none⟩) HVB2.out hb1) (fun A n c e => by cases e; omega)
        have HW13 := Lib.hid (FBox.new (w6.setCell ⟨g1, i * 5 + 3, none⟩ (.slice (some ⟨b0, o0, none⟩) 0 0)) F (.slice Ap F.params.length cp) (.slice (some ⟨b0, o0, none⟩) F.body.length 1))
        have hb7 := bal (w6.setCell ⟨g1, i * 5 + 3, none⟩ (.slice (some ⟨b0, o0, none⟩) 0 0)) (fO F (.slice Ap F.params.length cp) (.slice (some ⟨b0, o0, none⟩) F.body.length 1))
        have HP7 := Lib.hid (hp7.bel hb7)
        have hF7 : Below w.heap.size w (w6.setCell ⟨g1, i * 5 + 3, none⟩ (.slice (some ⟨b0, o0, none⟩) 0 0)) := HB6.out.setCell (p := ⟨g1, _, none⟩) hgw0 _
        have HB7 := Lib.hid (hF7.trans (hb7.mono hF7.size))
        have hz7 : (w6.setCell ⟨g1, i * 5 + 3, none⟩ (.slice (some ⟨b0, o0, none⟩) 0 0)).heap.size = w6.heap.size := size_set _ _ _
        have c9' : ((w6.setCell ⟨g1, i * 5 + 3, none⟩ (.slice (some ⟨b0, o0, none⟩) 0 0)).alloc (fO F (.slice Ap F.params.length cp) (.slice (some ⟨b0, o0, none⟩) F.body.length 1))).cell? ⟨w3.heap.size, 0, none⟩ = some (.slice (some ⟨g1, 0, none⟩) P.length k1) := by
          rw [hb7.cell (p := ⟨w3.heap.size, 0, none⟩) (by show w3.heap.size < _; rw [hz7]; omega), cell_set_ne (by show w3.heap.size ≠ g1; omega)]
          exact c9
        have HC9 := Lib.hid c9'
        rw [hz7] at HW13
        clear hp7 hb7 hF7 hz7 c9'
        have hk7 : ∀ b q, b < w6.heap.size → b ≠ g1 → (((w6.setCell ⟨g1, i * 5 + 3, none⟩ (.slice (some ⟨b0, o0, none⟩) 0 0)).alloc (fO F (.slice Ap F.params.length cp) (.slice (some ⟨b0, o0, none⟩) F.body.length 1)))).cell? ⟨b, q, none⟩ = w6.cell? ⟨b, q, none⟩ := fun b q h1 h2 => by
          rw [(bal _ _).cell (p := ⟨b, q, none⟩) (by show b < _; rw [size_set]; exact h1), cell_set_ne (by show b ≠ g1; exact h2)]
        have HK7 := Lib.hid hk7
        have hlt7 : w6.heap.size < (((w6.setCell ⟨g1, i * 5 + 3, none⟩ (.slice (some ⟨b0, o0, none⟩) 0 0)).alloc (fO F (.slice Ap F.params.length cp) (.slice (some ⟨b0, o0, none⟩) F.body.length 1)))).heap.size := by simp
        clear hk7
        clear hb1
        go_wp2_with fail
        clear fg x0 x1 x2 x3 x4 c9
        generalize ((w6.setCell ⟨g1, i * 5 + 3, none⟩ (.slice (some ⟨b0, o0, none⟩) 0 0)).alloc (fO F (.slice Ap F.params.length cp) (.slice (some ⟨b0, o0, none⟩) F.body.length 1))) = w7 at *
        have hget7 : (P.set i { F with body := F.body.tail })[i]? = some { F with body := F.body.tail } := List.getElem?_set_self hi
        obtain ⟨y0, y1, y2, y3, y4⟩ := HP7.out.cells hget7
        simp only [if_true] at y1 y3
        rw [HVP.out] at y1
        obtain ⟨z0, z1, z2, z3, z4⟩ := HW13.out
        have c9 := HC9.out
        have hpn := HP7.out.part i _ hget7
        simp only [if_true] at hpn
        rw [HVP.out] at hpn
        have hgw7 : g1 < w7.heap.size := by omega
        have HOF := Lib.hid HPB.out.ok
        have CS := Lib.hid (fun W (h : Below w7.heap.size w7 W) => sameFunc_calls F { F with body := F.body.tail } HPB.out.ok ⟨HPB.out.ok.name, HPB.out.ok.result, HPB.out.ok.count⟩ (.slice Ap F.params.length cp) (.slice (some ⟨b0, o0, none⟩) F.body.length 1) (.slice Ap F.params.length cp) (.slice (some ⟨b0, o0, none⟩) 0 0) W
          (PR.up (hpn.p.keep (R' := fun b => b < w7.heap.size) (fun b hb => hb.1) fun _ _ _ => rfl) h) (SIn.up (HVB2.out.keep (R' := fun b => b < w7.heap.size) (fun b hb => by have := hb.1; omega) fun b q hb => HK7.out b q hb.1 hb.2) h)
          (PR.up (hpn.p.keep (R' := fun b => b < w7.heap.size) (fun b hb => hb.1) fun _ _ _ => rfl) h) (SIn.up (hpn.b.keep (R' := fun b => b < w7.heap.size) (fun b hb => hb.1) fun _ _ _ => rfl) h) ((HG.out.up HB7.out).up h))
        have HSF := Lib.hid (show sameFn F { F with body := F.body.tail } = false by simp [sameFn, eqFn_len (show F.body.length ≠ ({ F with body := F.body.tail } : Fn).body.length by simp; omega)])
        have CM := Lib.hid (fun W (h : Below w7.heap.size w7 W) => made_calls la va W (HA.out.up (HB7.out.trans (h.mono HB7.out.size))))
        have hfn := HP7.out.fin
        have CN := Lib.hid (fun W (h : Below w7.heap.size w7 W) => number_all (P.set i { F with body := F.body.tail }) (.slice (some ⟨g1, 0, none⟩) (P.set i { F with body := F.body.tail }).length k1) W (FR.up hfn h) ((HG.out.up HB7.out).up h))
        have HPL := Lib.hid (show (P.set i { F with body := F.body.tail }).length = P.length by simp)
        rw [HPL.out] at CN
        have CX := Lib.hid (fun (vq : Value) W W2 (hW : Below w7.heap.size w7 W) (hp : FIn W W.heap.size P vq) (vr : Value) (h2 : Below W.heap.size W W2) (hr : FIn W2 W2.heap.size (numbP (P.set i { F with body := F.body.tail })) vr) => same_calls P (numbP (P.set i { F with body := F.body.tail })) vq vr W2 (FR.up hp h2) hr (((HG.out.up HB7.out).up hW).up h2))
        have HSP := Lib.hid (HCUT.out { F with body := F.body.tail } (by simp; omega))
        have hNL := numbP_len0 (P.set i { F with body := F.body.tail })
        have HNL := Lib.hid hNL
        clear hpn hget7 hfn hNL
        go_region_with (first | (go_at_call 28; refine (CS.out _ (by exact (Below.refl _ _).drew)).mono ?_; rintro e8 w8 ⟨rfl, hb8⟩; rw [HSF.out]; have F8 : Below w7.heap.size w7 w8 := ⟨hb8.os, hb8.tape, hb8.output, hb8.size, hb8.block⟩; have c98 := (F8.cell (p := ⟨w3.heap.size, 0, none⟩) (by show w3.heap.size < w7.heap.size; omega)).trans c9) | (go_at_call 33; refine (CM.out _ (by exact F8)).mono ?_; intro e9 w9 hm9; obtain ⟨g4, k4, V4, rfl, hb9, _, hp9⟩ := hm9.at_; rw [HPe.out] at hp9 ⊢; have F9 : Below w7.heap.size w7 w9 := after F8 hb9; have HP9 := hp9.fin; have c99 := (F9.cell (p := ⟨w3.heap.size, 0, none⟩) (by show w3.heap.size < w7.heap.size; omega)).trans c9) | (go_at_call 22; refine (CN.out _ (by exact F9)).mono ?_; intro e10 w10 hN; obtain ⟨vq, rfl, hb10, hf10⟩ := hN.fr (by have := HNL.out; omega); obtain ⟨A10, c10, rfl⟩ := hf10.slice; have F10 : Below w7.heap.size w7 w10 := after F9 hb10) | (go_at_call 26; refine (CX.out _ w9 _ F9 HP9 _ hb10 (hf10.keep (fun b hb => hb.2) fun _ _ _ => rfl)).mono ?_; rintro e11 w11 ⟨rfl, hb11⟩; rw [HSP.out]; have F11 : Below w7.heap.size w7 w11 := after F10 hb11) | (go_at_call 12; refine (works_calls _ ((HG.out.up HB7.out).up F11)).mono ?_; rintro e12 w12 ⟨rfl, hb12⟩; have F12 : Below w7.heap.size w7 w12 := after F11 hb12))
        all_goals
          have HB12 := Lib.hid (HB7.out.trans (F12.mono HB7.out.size))
          go_wp2_with fail
          go_ret
          exact ⟨rfl, HB12.out⟩
      · obtain ⟨b0, o0, rfl⟩ : ∃ b0 o0, Ab = some ⟨b0, o0, none⟩ := by
          have h := HPB.out.b
          rw [HVB.out] at h
          cases h with
          | mk _ _ _ Va Vb Ve hlen hc ha hb he =>
            obtain ⟨b, o, h1, _⟩ := hc 0 _ (List.getElem?_eq_getElem (by omega))
            exact ⟨b, o, h1⟩
        have HVP2 := Lib.hid (show PIn w6 w6.heap.size F.params (.slice Ap F.params.length cp) by
          have h := HPB.out.p
          rw [HVP.out] at h
          exact h.keep (fun b hb => hb.1) fun _ _ _ => rfl)
        have HVB2 := Lib.hid (show SR w6 (fun b => b < w6.heap.size ∧ b ≠ g1) F.body (.slice (some ⟨b0, o0, none⟩) F.body.length cb) by
          have h := HPB.out.b
          rwa [HVB.out] at h)
        have hpl := HVP2.out.le
        have hp7 := HP6.out.setBody HGET.out (SR.tail (c' := cb - 1) HVB2.out) (fun A n c e => by cases e; omega)
        have HW13 := Lib.hid (FBox.new (w6.setCell ⟨g1, i * 5 + 3, none⟩ (.slice (some ⟨b0, o0 + 8, none⟩) (F.body.length - 1) (cb - 1))) F (.slice Ap F.params.length cp) (.slice (some ⟨b0, o0, none⟩) F.body.length cb))
        have hb7 := bal (w6.setCell ⟨g1, i * 5 + 3, none⟩ (.slice (some ⟨b0, o0 + 8, none⟩) (F.body.length - 1) (cb - 1))) (fO F (.slice Ap F.params.length cp) (.slice (some ⟨b0, o0, none⟩) F.body.length cb))
        have HP7 := Lib.hid (hp7.bel hb7)
        have hF7 : Below w.heap.size w (w6.setCell ⟨g1, i * 5 + 3, none⟩ (.slice (some ⟨b0, o0 + 8, none⟩) (F.body.length - 1) (cb - 1))) := HB6.out.setCell (p := ⟨g1, _, none⟩) hgw0 _
        have HB7 := Lib.hid (hF7.trans (hb7.mono hF7.size))
        have hz7 : (w6.setCell ⟨g1, i * 5 + 3, none⟩ (.slice (some ⟨b0, o0 + 8, none⟩) (F.body.length - 1) (cb - 1))).heap.size = w6.heap.size := size_set _ _ _
        have c9' : ((w6.setCell ⟨g1, i * 5 + 3, none⟩ (.slice (some ⟨b0, o0 + 8, none⟩) (F.body.length - 1) (cb - 1))).alloc (fO F (.slice Ap F.params.length cp) (.slice (some ⟨b0, o0, none⟩) F.body.length cb))).cell? ⟨w3.heap.size, 0, none⟩ = some (.slice (some ⟨g1, 0, none⟩) P.length k1) := by
          rw [hb7.cell (p := ⟨w3.heap.size, 0, none⟩) (by show w3.heap.size < _; rw [hz7]; omega), cell_set_ne (by show w3.heap.size ≠ g1; omega)]
          exact c9
        have HC9 := Lib.hid c9'
        rw [hz7] at HW13
        clear hp7 hb7 hF7 hz7 c9'
        have hk7 : ∀ b q, b < w6.heap.size → b ≠ g1 → (((w6.setCell ⟨g1, i * 5 + 3, none⟩ (.slice (some ⟨b0, o0 + 8, none⟩) (F.body.length - 1) (cb - 1))).alloc (fO F (.slice Ap F.params.length cp) (.slice (some ⟨b0, o0, none⟩) F.body.length cb)))).cell? ⟨b, q, none⟩ = w6.cell? ⟨b, q, none⟩ := fun b q h1 h2 => by
          rw [(bal _ _).cell (p := ⟨b, q, none⟩) (by show b < _; rw [size_set]; exact h1), cell_set_ne (by show b ≠ g1; exact h2)]
        have HK7 := Lib.hid hk7
        have hlt7 : w6.heap.size < (((w6.setCell ⟨g1, i * 5 + 3, none⟩ (.slice (some ⟨b0, o0 + 8, none⟩) (F.body.length - 1) (cb - 1))).alloc (fO F (.slice Ap F.params.length cp) (.slice (some ⟨b0, o0, none⟩) F.body.length cb)))).heap.size := by simp
        clear hk7
        go_wp2_with fail
        clear fg x0 x1 x2 x3 x4 c9
        generalize ((w6.setCell ⟨g1, i * 5 + 3, none⟩ (.slice (some ⟨b0, o0 + 8, none⟩) (F.body.length - 1) (cb - 1))).alloc (fO F (.slice Ap F.params.length cp) (.slice (some ⟨b0, o0, none⟩) F.body.length cb))) = w7 at *
        have hget7 : (P.set i { F with body := F.body.tail })[i]? = some { F with body := F.body.tail } := List.getElem?_set_self hi
        obtain ⟨y0, y1, y2, y3, y4⟩ := HP7.out.cells hget7
        simp only [if_true] at y1 y3
        rw [HVP.out] at y1
        obtain ⟨z0, z1, z2, z3, z4⟩ := HW13.out
        have c9 := HC9.out
        have hpn := HP7.out.part i _ hget7
        simp only [if_true] at hpn
        rw [HVP.out] at hpn
        have hgw7 : g1 < w7.heap.size := by omega
        have HOF := Lib.hid HPB.out.ok
        have CS := Lib.hid (fun W (h : Below w7.heap.size w7 W) => sameFunc_calls F { F with body := F.body.tail } HPB.out.ok ⟨HPB.out.ok.name, HPB.out.ok.result, HPB.out.ok.count⟩ (.slice Ap F.params.length cp) (.slice (some ⟨b0, o0, none⟩) F.body.length cb) (.slice Ap F.params.length cp) (.slice (some ⟨b0, o0 + 8, none⟩) (F.body.length - 1) (cb - 1)) W
          (PR.up (hpn.p.keep (R' := fun b => b < w7.heap.size) (fun b hb => hb.1) fun _ _ _ => rfl) h) (SIn.up (HVB2.out.keep (R' := fun b => b < w7.heap.size) (fun b hb => by have := hb.1; omega) fun b q hb => HK7.out b q hb.1 hb.2) h)
          (PR.up (hpn.p.keep (R' := fun b => b < w7.heap.size) (fun b hb => hb.1) fun _ _ _ => rfl) h) (SIn.up (hpn.b.keep (R' := fun b => b < w7.heap.size) (fun b hb => hb.1) fun _ _ _ => rfl) h) ((HG.out.up HB7.out).up h))
        have HSF := Lib.hid (show sameFn F { F with body := F.body.tail } = false by simp [sameFn, eqFn_len (show F.body.length ≠ ({ F with body := F.body.tail } : Fn).body.length by simp; omega)])
        have CM := Lib.hid (fun W (h : Below w7.heap.size w7 W) => made_calls la va W (HA.out.up (HB7.out.trans (h.mono HB7.out.size))))
        have hfn := HP7.out.fin
        have CN := Lib.hid (fun W (h : Below w7.heap.size w7 W) => number_all (P.set i { F with body := F.body.tail }) (.slice (some ⟨g1, 0, none⟩) (P.set i { F with body := F.body.tail }).length k1) W (FR.up hfn h) ((HG.out.up HB7.out).up h))
        have HPL := Lib.hid (show (P.set i { F with body := F.body.tail }).length = P.length by simp)
        rw [HPL.out] at CN
        have CX := Lib.hid (fun (vq : Value) W W2 (hW : Below w7.heap.size w7 W) (hp : FIn W W.heap.size P vq) (vr : Value) (h2 : Below W.heap.size W W2) (hr : FIn W2 W2.heap.size (numbP (P.set i { F with body := F.body.tail })) vr) => same_calls P (numbP (P.set i { F with body := F.body.tail })) vq vr W2 (FR.up hp h2) hr (((HG.out.up HB7.out).up hW).up h2))
        have HSP := Lib.hid (HCUT.out { F with body := F.body.tail } (by simp; omega))
        have hNL := numbP_len0 (P.set i { F with body := F.body.tail })
        have HNL := Lib.hid hNL
        clear hpn hget7 hfn hNL
        go_region_with (first | (go_at_call 28; refine (CS.out _ (by exact (Below.refl _ _).drew)).mono ?_; rintro e8 w8 ⟨rfl, hb8⟩; rw [HSF.out]; have F8 : Below w7.heap.size w7 w8 := ⟨hb8.os, hb8.tape, hb8.output, hb8.size, hb8.block⟩; have c98 := (F8.cell (p := ⟨w3.heap.size, 0, none⟩) (by show w3.heap.size < w7.heap.size; omega)).trans c9) | (go_at_call 33; refine (CM.out _ (by exact F8)).mono ?_; intro e9 w9 hm9; obtain ⟨g4, k4, V4, rfl, hb9, _, hp9⟩ := hm9.at_; rw [HPe.out] at hp9 ⊢; have F9 : Below w7.heap.size w7 w9 := after F8 hb9; have HP9 := hp9.fin; have c99 := (F9.cell (p := ⟨w3.heap.size, 0, none⟩) (by show w3.heap.size < w7.heap.size; omega)).trans c9) | (go_at_call 22; refine (CN.out _ (by exact F9)).mono ?_; intro e10 w10 hN; obtain ⟨vq, rfl, hb10, hf10⟩ := hN.fr (by have := HNL.out; omega); obtain ⟨A10, c10, rfl⟩ := hf10.slice; have F10 : Below w7.heap.size w7 w10 := after F9 hb10) | (go_at_call 26; refine (CX.out _ w9 _ F9 HP9 _ hb10 (hf10.keep (fun b hb => hb.2) fun _ _ _ => rfl)).mono ?_; rintro e11 w11 ⟨rfl, hb11⟩; rw [HSP.out]; have F11 : Below w7.heap.size w7 w11 := after F10 hb11) | (go_at_call 12; refine (works_calls _ ((HG.out.up HB7.out).up F11)).mono ?_; rintro e12 w12 ⟨rfl, hb12⟩; have F12 : Below w7.heap.size w7 w12 := after F11 hb12))
        all_goals
          have HB12 := Lib.hid (HB7.out.trans (F12.mono HB7.out.size))
          go_wp2_with fail
          go_ret
          exact ⟨rfl, HB12.out⟩
end Go.Proofs.YthiilnhiihfknaaDoor
