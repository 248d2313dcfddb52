/-
  The reference's numbers, Check: contracts.
-/
import Derived.Test.YthiilnhiihfknaaDoorSRNum
import Derived.Test.YthiilnhiihfknaaDoorSNumOk
import Derived.Lib.QuietBelow
import Derived.BigQuiet
namespace Go.Proofs.YthiilnhiihfknaaDoor
open Go Go.RowKit Go.Sort

theorem vis_agree {F G : Nat → St → Bool} {k : Nat} {l : List St} {n0 a b : Nat} (h1 : vis F k l n0 = some a) (h2 : vis G k l n0 = some b) : a = b := by
  have e1 := numb_vis F k l n0 a h1
  have e2 := numb_vis G k l n0 b h2
  rw [e1] at e2
  exact Int.ofNat.inj e2
theorem numbPre_get (k : Nat) (l : List St) (n0 : Int) (i : Nat) (hi : i < l.length) : ∀ j, i < j → j ≤ l.length → (numbPre k l n0 j).1[i]? = some (numbSt k (numbPre k l n0 i).2 l[i]) := by
  intro j
  induction j with
  | zero => intro h; omega
  | succ j ih =>
    intro h1 h2
    rw [numbPre_succ (show j < l.length by omega)]
    have hlen := numbPre_len k l n0 j (by omega)
    by_cases hj : i = j
    · subst hj
      simp only
      rw [List.getElem?_append_right (by omega), hlen, Nat.sub_self]
      rfl
    · simp only
      rw [List.getElem?_append_left (by omega)]
      exact ih (by omega) (by omega)
theorem numbL_get {k : Nat} {l : List St} {n0 q : Nat} {i : Nat} (hi : i < l.length) (hq : (l.take i).foldlM (visS FA k) n0 = some q) : (numbL (k + 1) l n0).1[i]? = some (numbSt k q l[i]) := by
  have := numbPre_get k l n0 i hi l.length hi (Nat.le_refl _)
  rw [pre_vis FA k l i n0 q hq] at this
  rw [← this]
  unfold numbPre
  rw [List.take_length, numbL]
theorem visB_none {k : Nat} {s : St} {q : Nat} (h : s.no ≠ (q : Int)) : visS FB k q s = none := by
  unfold visS
  rw [if_pos (.inr (by simp [FB, h]))]
theorem visB_step {k : Nat} {s : St} {q : Nat} (hq : q < 200) (h : s.no = (q : Int)) : visS FB k q s = (vis FB k s.body (q + 1)).bind fun n => vis FB k s.els n := by
  unfold visS
  rw [if_neg (by simp [FB, h]; omega)]

set_option maxHeartbeats 20000000 in
theorem numbers_calls (k : Nat) : ∀ (la : List St) (n0 m : Nat) (lb : List St) (va vb : Value) (w : World), n0 ≤ 200 → vis FA k la n0 = some m → lb = (numbL k la n0).1 → SIn w w.heap.size la va → SIn w w.heap.size lb vb →
    Calls Tryd.prog 58 #[va, vb] w fun r w' => r = .returned (.bool (vis FB k la n0).isSome) ∧ Below w.heap.size w w' := by
  induction k with
  | zero =>
    intro la n0 m lb va vb w h0 hv hlb hA hB
    have hla : la = [] := by unfold vis at hv; split at hv; assumption; cases hv
    subst hla
    obtain ⟨A1, c1, rfl⟩ := hA.slice
    obtain ⟨A2, c2, rfl⟩ := hB.slice
    have F := Lib.hid (show vis FB 0 [] n0 = some n0 by simp [vis])
    clear hA hB hv hlb
    go_enter Tryd.func58, Tryd.ntmps58
    go_wp2_with fail
    refine wp_loop_rounds 1 ?_
    rw [rounds_succ]
    go_wp2_with fail
    go_ret
    exact ⟨by rw [F.out]; rfl, Below.refl _ _⟩
  | succ k ih =>
    intro la n0 m lb va vb w h0 hv hlb hA hB
    obtain ⟨A1, c1, rfl⟩ := hA.slice
    obtain ⟨A2, c2, rfl⟩ := hB.slice
    have l1 := hA.le
    have l2 := hB.le
    have hle : lb.length = la.length := by rw [hlb]; exact numbL_len_of (k + 1) la n0 m hv
    have HA := Lib.hid hA
    have HB := Lib.hid hB
    have IH := Lib.hid ih
    have HV := Lib.hid hv
    have HLB := Lib.hid hlb
    clear hA hB ih hv hlb
    go_enter Tryd.func58, Tryd.ntmps58
    go_wp2_with fail
    go_loopw [5] (fun i wr => ∃ n q : Nat, n ≤ la.length ∧ i = .int .i64 n ∧ (la.take n).foldlM (visS FA k) n0 = some q ∧ (la.take n).foldlM (visS FB k) n0 = some q ∧ Below w.heap.size w wr) (fun i _ => la.length - (intOf i).toNat)
    case atStart => exact ⟨0, n0, by omega, rfl, rfl, rfl, Below.refl _ _⟩
    case round =>
      obtain ⟨n, q, hn, rfl, hq, hqb, hbw⟩ := hrel
      have HQ := Lib.hid hq
      have HQB := Lib.hid hqb
      have HW := Lib.hid hbw
      clear hq hqb hbw
      by_cases hlt : n < la.length
      · have hlt2 : n < lb.length := by omega
        obtain ⟨a, b, h200, hF, hb1, hb2, hn2, ha2, hbb2⟩ := vis_at HV.out h0 hlt HQ.out
        have hy : lb[n] = numbSt k q la[n] := by
          have e := numbL_get hlt HQ.out
          rw [← HLB.out, List.getElem?_eq_getElem hlt2] at e
          exact Option.some.inj e
        obtain ⟨bl, o, va, vb, ve, hA, hbl, hoe, hc, s1, s2, s3⟩ := (HA.out.at_).2 n hlt
        obtain ⟨a0, a1, a2, a3, a4, a5, a6, a7⟩ := hc.keep (fun i => HW.out.cell (p := ⟨bl, i, none⟩) hbl)
        obtain ⟨A3, c3, rfl⟩ := s1.slice
        obtain ⟨A4, c4, rfl⟩ := s2.slice
        obtain ⟨A5, c5, rfl⟩ := s3.slice
        have HS2 := Lib.hid (SIn.up s2 HW.out)
        have HS3 := Lib.hid (SIn.up s3 HW.out)
        subst hA
        clear s1 s2 s3 hc
        obtain ⟨bl2, o2, va2, vb2, ve2, hA2, hbl2, hoe2, hc2, s1, s2, s3⟩ := (HB.out.at_).2 n hlt2
        obtain ⟨b0, b1, b2', b3, b4, b5, b6, b7⟩ := hc2.keep (fun i => HW.out.cell (p := ⟨bl2, i, none⟩) hbl2)
        obtain ⟨A6, c6, rfl⟩ := s1.slice
        obtain ⟨A7, c7, rfl⟩ := s2.slice
        obtain ⟨A8, c8, rfl⟩ := s3.slice
        have HS5 := Lib.hid (SIn.up s2 HW.out)
        have HS6 := Lib.hid (SIn.up s3 HW.out)
        subst hA2
        clear s1 s2 s3 hc2
        have hz := HW.out.size
        have HNX := Lib.hid (fun h : visS FB k q la[n] = none => fold_none hlt HQB.out h)
        have HSN := Lib.hid (show (la.take (n + 1)).foldlM (visS FB k) n0 = visS FB k q la[n] by rw [fold_snoc hlt, HQB.out]; rfl)
        have HN2 := Lib.hid hn2
        have hyn : lb[n].no = (q : Int) := by rw [hy]; rfl
        have e1 : (numbL k la[n].body ((q : Int) + 1)).2 = a := by have := numb_vis FA k la[n].body (q + 1) a hb1; simpa using this
        have hyb : lb[n].body = (numbL k la[n].body ((q + 1 : Nat) : Int)).1 := by rw [hy, show ((q + 1 : Nat) : Int) = (q : Int) + 1 by omega]; rfl
        have hye : lb[n].els = (numbL k la[n].els (a : Int)).1 := by rw [hy]; show (numbL k la[n].els (numbL k la[n].body ((q : Int) + 1)).2).1 = _; rw [e1]
        have C1 := IH.out la[n].body (q + 1) a lb[n].body _ _ wr (by omega) hb1 hyb HS2.out HS5.out
        have HC1 := Lib.hid (fun d os => IH.out la[n].body (q + 1) a lb[n].body _ _ (grow (redrawn wr d) os) (by omega) hb1 hyb (HS2.out.up (below_regrown wr d os)) (HS5.out.up (below_regrown wr d os)))
        have HC2 := Lib.hid (fun d os => IH.out la[n].els a b lb[n].els _ _ (grow (redrawn wr d) os) (by omega) hb2 hye (HS3.out.up (below_regrown wr d os)) (HS6.out.up (below_regrown wr d os)))
        have HB1 := Lib.hid (fun (z : Nat) (h : vis FB k la[n].body (q + 1) = some z) => (vis_agree hb1 h).symm)
        have HB2 := Lib.hid (fun (z : Nat) (h : vis FB k la[n].els a = some z) => (vis_agree hb2 h).symm)
        clear C1 hy hyb hye hb1 hb2 hn2 hF e1
        generalize la[n] = x at *
        generalize lb[n] = y at *
        have qa0 := fun d os => cell_regrown a0 d os
        have qa1 := fun d os => cell_regrown a1 d os
        have qa2 := fun d os => cell_regrown a2 d os
        have qa3 := fun d os => cell_regrown a3 d os
        have qa4 := fun d os => cell_regrown a4 d os
        have qa5 := fun d os => cell_regrown a5 d os
        have qa6 := fun d os => cell_regrown a6 d os
        have qa7 := fun d os => cell_regrown a7 d os
        have qb0 := fun d os => cell_regrown b0 d os
        have qb1 := fun d os => cell_regrown b1 d os
        have qb2 := fun d os => cell_regrown b2' d os
        have qb3 := fun d os => cell_regrown b3 d os
        have qb4 := fun d os => cell_regrown b4 d os
        have qb5 := fun d os => cell_regrown b5 d os
        have qb6 := fun d os => cell_regrown b6 d os
        have qb7 := fun d os => cell_regrown b7 d os
        clear a0 a1 a2 a3 a4 a5 a6 a7 b0 b1 b2' b3 b4 b5 b6 b7
        by_cases h1 : x.no = (q : Int)
        · have g0 : (x.no != y.no) = false := by rw [hyn]; simpa using h1
          cases hv1 : vis FB k x.body (q + 1) with
          | none =>
            have c1 := fun d os => Calls.regrown_of (d := d) (os := os) (HC1.out d os)
            simp only [hv1, Option.isSome_none] at c1
            have HR := Lib.hid (HNX.out (by rw [visB_step h200 h1, hv1]; rfl))
            clear h1 hyn hv1
            have HC1 := Lib.hid c1
            clear c1
            go_wp2_with fail
            refine wp_region_quiet_below (by kernel_rfl) (by kernel_rfl) ?_
            repeat (first | go_big_quiet_step (with_reducible exact HC1.out _ _) | quiet_step (with_reducible exact HC1.out _ _))
            refine wpQuiet_nil ?_
            intro _ hw'
            obtain ⟨⟨dq, osq⟩, hw''⟩ := hw'
            subst hw''
            have HB2 := Lib.hid (after HW.out (below_regrown wr dq osq))
            go_wp2_with fail
            go_ret
            exact ⟨by rw [HR.out]; rfl, HB2.out⟩
          | some z1 =>
            have hz1 := HB1.out z1 hv1
            subst hz1
            cases hv2 : vis FB k x.els z1 with
            | none =>
              have c1 := fun d os => Calls.regrown_of (d := d) (os := os) (HC1.out d os)
              have c2 := fun d os => Calls.regrown_of (d := d) (os := os) (HC2.out d os)
              simp only [hv1, Option.isSome_some] at c1
              simp only [hv2, Option.isSome_none] at c2
              have HR := Lib.hid (HNX.out (by rw [visB_step h200 h1, hv1]; exact hv2))
              clear h1 hyn hv1 hv2
              have HC1 := Lib.hid c1
              have HC2 := Lib.hid c2
              clear c1 c2
              go_wp2_with fail
              refine wp_region_quiet_below (by kernel_rfl) (by kernel_rfl) ?_
              repeat (first | go_big_quiet_step (first | with_reducible exact HC1.out _ _ | with_reducible exact HC2.out _ _) | quiet_step (first | with_reducible exact HC1.out _ _ | with_reducible exact HC2.out _ _))
              refine wpQuiet_nil ?_
              intro _ hw'
              obtain ⟨⟨dq, osq⟩, hw''⟩ := hw'
              subst hw''
              have HB2 := Lib.hid (after HW.out (below_regrown wr dq osq))
              go_wp2_with fail
              go_ret
              exact ⟨by rw [HR.out]; rfl, HB2.out⟩
            | some z2 =>
              have hz2 := HB2.out z2 hv2
              subst hz2
              have c1 := fun d os => Calls.regrown_of (d := d) (os := os) (HC1.out d os)
              have c2 := fun d os => Calls.regrown_of (d := d) (os := os) (HC2.out d os)
              simp only [hv1, Option.isSome_some] at c1
              simp only [hv2, Option.isSome_some] at c2
              have HR := Lib.hid (show (la.take (n + 1)).foldlM (visS FB k) n0 = some z2 by rw [HSN.out, visB_step h200 h1, hv1]; exact hv2)
              clear h1 hyn hv1 hv2
              have HC1 := Lib.hid c1
              have HC2 := Lib.hid c2
              clear c1 c2
              go_wp2_with fail
              refine wp_region_quiet_below (by kernel_rfl) (by kernel_rfl) ?_
              repeat (first | go_big_quiet_step (first | with_reducible exact HC1.out _ _ | with_reducible exact HC2.out _ _) | quiet_step (first | with_reducible exact HC1.out _ _ | with_reducible exact HC2.out _ _))
              refine wpQuiet_nil ?_
              intro _ hw'
              obtain ⟨⟨dq, osq⟩, hw''⟩ := hw'
              subst hw''
              have HB2 := Lib.hid (after HW.out (below_regrown wr dq osq))
              go_wp2_with fail
              go_roundw
              case rel => exact ⟨n + 1, z2, by omega, by go_num, HN2.out, HR.out, HB2.out⟩
              case measure => simp [intOf]; omega
        · have g0 : (x.no != y.no) = true := by rw [hyn]; simpa using h1
          have HR := Lib.hid (HNX.out (visB_none h1))
          clear h1 hyn
          go_wp2_with fail
          refine wp_region_quiet_below (by kernel_rfl) (by kernel_rfl) ?_
          repeat (first | go_big_quiet_step (fail) | quiet_step (fail))
          refine wpQuiet_nil ?_
          intro _ hw'
          obtain ⟨⟨dq, osq⟩, hw''⟩ := hw'
          subst hw''
          have HB2 := Lib.hid (after HW.out (below_regrown wr dq osq))
          go_wp2_with fail
          go_ret
          exact ⟨by rw [HR.out]; rfl, HB2.out⟩
      · obtain rfl : n = la.length := by omega
        have HR := Lib.hid (fold_done HQB.out)
        go_wp2_with fail
        go_ret
        exact ⟨by rw [HR.out]; rfl, HW.out⟩

theorem RefNumP.fr {l : List Fn} {w w' : World} {e : Ending} {R : Nat → Prop} (h : RefNumP l R w e w') (hR : ∀ b, R b → b < w.heap.size) (hl : (numbP l).length ≤ 1000) : ∃ v, e = .returned (.agg #[v]) ∧ Below w.heap.size w w' ∧ FIn w' w'.heap.size (numbP l) v := by
  obtain ⟨v, rfl, hb, h | ⟨g, cap, lo, V, rfl, hlo, hg, hr, hn⟩⟩ := h
  · obtain ⟨h1, A, c, rfl⟩ := h
    rw [h1]
    exact ⟨_, rfl, hb, FR.nil _ _⟩
  · have hs := hb.size
    have kk : ∀ b, (R b ∨ (lo ≤ b ∧ b < w'.heap.size)) ∧ b ≠ g → b < w'.heap.size := by
      rintro b ⟨h1 | h1, _⟩
      · have := hR b h1; omega
      · exact h1.2
    exact ⟨_, rfl, hb, FR.of_row hr hr.lt (by omega) (fun i f hi => (hn i f hi).1.ok) (fun i f hi => (hn i f hi).1.p.keep kk fun _ _ _ => rfl) (fun i f hi => (hn i f hi).1.b.keep kk fun _ _ _ => rfl)⟩
theorem numbP_len (l : List Fn) : (numbP l).length ≤ 20 := by
  unfold numbP
  cases h : fnsB l with
  | false => simp
  | true =>
    simp only [fnsB, Bool.and_eq_true, decide_eq_true_eq] at h
    simpa using h.1
theorem numbB_eq {f : Fn} {m : Nat} (h : vis FA 20 f.body 0 = some m) : numbB f = (decide (f.count = (m : Int)) && (vis FB 20 f.body 0).isSome) := by
  unfold numbB
  show (match vis FB 20 f.body 0 with | none => false | some n => decide (f.count = (n : Int))) = _
  cases hv : vis FB 20 f.body 0 with
  | none => simp
  | some n => have := vis_agree h hv; subst this; simp

set_option maxRecDepth 100000 in
set_option maxHeartbeats 20000000 in
theorem refCheck_calls (l : List Fn) (v : Value) (w : World) (hl : FIn w w.heap.size l v) :
    Calls Tryd.prog 25 #[.agg #[v]] w fun e w' => e = .returned (.int .i64 (errI (checkB l))) ∧ Below w.heap.size w w' := by
  obtain ⟨A, c, rfl⟩ := hl.slice
  have hle := hl.le
  have HL := Lib.hid hl
  have HX := Lib.hid (heap_alloc_new w (.cells #[.slice A l.length c] 35))
  clear hl
  cases hr : fnsB l with
  | false =>
    have hE : numbP l = [] := by simp [numbP, hr]
    have HE := Lib.hid (show errI (checkB l) = 2 by simp [checkB, hr, errI])
    have h0 : l.length ≠ 0 := by
      intro h
      have := List.eq_nil_of_length_eq_zero h
      subst this
      simp [fnsB] at hr
    have hne : ((0 : Int) != (l.length : Int)) = true := by simp; omega
    have HNP := Lib.hid hE
    clear hr h0 hE
    go_enter Tryd.func25, Tryd.ntmps25
    go_wp2_with fail
    refine (refNumber_all l _ (fun b => b < (w.alloc (.cells #[.slice A l.length c] 35)).heap.size) _ (HL.out.al _) (fun _ h => h)).mono ?_
    intro e w1 hR
    obtain ⟨vq, rfl, hb, hq⟩ := hR.fr (fun _ h => h) (by have := numbP_len l; omega)
    rw [HNP.out] at hq
    obtain ⟨Aq, cq, rfl⟩ := hq.slice
    have HB := Lib.hid (after (bal w _) hb)
    have B1 := (hb.block w.heap.size (by simp)).trans HX.out
    have c1 := cell_of_one ((bal w1 (.cells #[.slice Aq 0 cq] 35)).block _ (lt_of_block B1) |>.trans B1)
    clear hb hq B1 hR
    go_wp2_with fail
    go_ret
    exact ⟨by rw [HE.out]; rfl, HB.out.alloc HB.out.size _⟩
  | true =>
    have hE : numbP l = l.map numbF := by simp [numbP, hr]
    have hall : ∀ x ∈ l, fnB x = true := by simp only [fnsB, Bool.and_eq_true, List.all_eq_true] at hr; exact hr.2
    have HE := Lib.hid (show checkB l = l.all numbB by simp [checkB, hr])
    have HNP := Lib.hid hE
    have HALL := Lib.hid hall
    clear hr hE hall
    go_enter Tryd.func25, Tryd.ntmps25
    go_wp2_with fail
    refine (refNumber_all l _ (fun b => b < (w.alloc (.cells #[.slice A l.length c] 35)).heap.size) _ (HL.out.al _) (fun _ h => h)).mono ?_
    intro e w1 hR
    obtain ⟨vq, rfl, hb, hq⟩ := hR.fr (fun _ h => h) (by have := numbP_len l; omega)
    rw [HNP.out] at hq
    obtain ⟨Aq, cq, hvq⟩ := hq.slice
    rw [List.length_map] at hvq
    subst hvq
    have HB := Lib.hid (after (bal w _) hb)
    have B1 := (hb.block w.heap.size (by simp)).trans HX.out
    have hb3 := bal w1 (.cells #[.slice Aq l.length cq] 35)
    have C1 := Lib.hid ((hb3.block _ (lt_of_block B1)).trans B1)
    have C2 := Lib.hid (heap_alloc_new w1 (.cells #[.slice Aq l.length cq] 35))
    have c1 := cell_of_one C1.out
    have c2 := cell_of_one C2.out
    have HQ := Lib.hid (hq.up hb3)
    have HL := Lib.hid (HL.out.up (HB.out.alloc HB.out.size (.cells #[.slice Aq l.length cq] 35)))
    have HBQ := Lib.hid (HB.out.alloc HB.out.size (.cells #[.slice Aq l.length cq] 35))
    have hnn : ((l.length : Int) != (l.length : Int)) = false := by simp
    have hw1 : w.heap.size < w1.heap.size := lt_of_block B1
    clear hb hq B1 hR hb3
    go_wp2_with fail
    have hs2 : w1.heap.size < (w1.alloc (.cells #[.slice Aq l.length cq] 35)).heap.size := by simp
    have hs1 : w.heap.size < (w1.alloc (.cells #[.slice Aq l.length cq] 35)).heap.size := by omega
    go_loopw [4] (fun i wr => ∃ n : Nat, n ≤ l.length ∧ i = .int .i64 n ∧ (l.take n).all numbB = true ∧ Below (w1.alloc (.cells #[.slice Aq l.length cq] 35)).heap.size (w1.alloc (.cells #[.slice Aq l.length cq] 35)) wr) (fun i _ => l.length - (intOf i).toNat)
    case atStart => exact ⟨0, by omega, rfl, rfl, Below.refl _ _⟩
    case round =>
      obtain ⟨n, hn, rfl, ht, hbw⟩ := hrel
      have HT := Lib.hid ht
      have HW := Lib.hid hbw
      have hz := hbw.size
      clear ht hbw c1 c2
      have c1 := cell_of_one ((HW.out.block _ hs1).trans C1.out)
      have c2 := cell_of_one ((HW.out.block _ hs2).trans C2.out)
      by_cases hlt : n < l.length
      · obtain ⟨b, o, vp, vb, hA, hbl, hof, hc, hp, hb⟩ := HL.out.at_ n hlt
        obtain ⟨a0, a1, a2, a3, a4⟩ := hc.keep (fun i => HW.out.cell (p := ⟨b, i, none⟩) hbl)
        obtain ⟨A1, d1, rfl⟩ := hp.slice
        obtain ⟨A2, d2, rfl⟩ := hb.slice
        have HS1 := Lib.hid (SIn.up hb HW.out)
        subst hA
        clear hc hp hb hof
        have hlt2 : n < (l.map numbF).length := by simpa using hlt
        obtain ⟨b2, o2, vp2, vb2, hA2, hbl2, hof2, hc2, hp2, hb2⟩ := HQ.out.at_ n hlt2
        obtain ⟨b0, b1, b2', b3, b4⟩ := hc2.keep (fun i => HW.out.cell (p := ⟨b2, i, none⟩) hbl2)
        obtain ⟨A3, d3, rfl⟩ := hp2.slice
        obtain ⟨A4, d4, rfl⟩ := hb2.slice
        have HS2 := Lib.hid (SIn.up hb2 HW.out)
        subst hA2
        clear hc2 hp2 hb2 hof2
        have hy : (l.map numbF)[n] = numbF l[n] := by simp
        have hfn := HALL.out _ (List.getElem_mem hlt)
        obtain ⟨m, hm⟩ : ∃ m, vis FA 20 l[n].body 0 = some m := by
          simp only [fnB, Bool.and_eq_true] at hfn
          exact Option.isSome_iff_exists.1 hfn.2
        have hcnt : (l.map numbF)[n].count = (m : Int) := by rw [hy]; exact numb_vis FA 20 l[n].body 0 m hm
        have hbod : (l.map numbF)[n].body = (numbL 20 l[n].body ((0 : Nat) : Int)).1 := by rw [hy]; rfl
        have HC := Lib.hid (fun d os => numbers_calls 20 l[n].body 0 m (l.map numbF)[n].body _ _ (grow (redrawn wr d) os) (by omega) hm hbod (HS1.out.up (below_regrown wr d os)) (HS2.out.up (below_regrown wr d os)))
        have HNB := Lib.hid (numbB_eq hm)
        have HY := Lib.hid (all_snoc (f := numbB) hlt)
        have HN := Lib.hid (fun h : numbB l[n] = false => all_no hlt h)
        clear hy hfn hm hbod
        generalize l[n] = x at *
        generalize (l.map numbF)[n] = y at *
        have qc1 := fun d os => cell_regrown c1 d os
        have qc2 := fun d os => cell_regrown c2 d os
        have qa3 := fun d os => cell_regrown a3 d os
        have qa4 := fun d os => cell_regrown a4 d os
        have qb3 := fun d os => cell_regrown b3 d os
        have qb4 := fun d os => cell_regrown b4 d os
        clear a0 a1 a2 a3 a4 b0 b1 b2' b3 b4
        by_cases h1 : x.count = (m : Int)
        · have g0 : (x.count != y.count) = false := by rw [hcnt]; simpa using h1
          cases hv : (vis FB 20 x.body 0).isSome with
          | false =>
            have c1 := fun d os => Calls.regrown_of (d := d) (os := os) (HC.out d os)
            simp only [hv] at c1
            have HE2 := Lib.hid (show errI (checkB l) = 2 by rw [HE.out, HN.out (by rw [HNB.out, hv]; simp)]; rfl)
            clear h1 hcnt hv
            have HC1 := Lib.hid c1
            clear c1
            go_wp2_with fail
            refine wp_region_quiet_below (by kernel_rfl) (by kernel_rfl) ?_
            repeat (first | go_big_quiet_step (with_reducible exact HC1.out _ _) | quiet_step (with_reducible exact HC1.out _ _))
            refine wpQuiet_nil ?_
            intro _ hw'
            obtain ⟨⟨dq, osq⟩, hw''⟩ := hw'
            subst hw''
            have HB2 := Lib.hid (HBQ.out.trans ((after HW.out (below_regrown wr dq osq)).mono HBQ.out.size))
            go_wp2_with fail
            go_ret
            exact ⟨by rw [HE2.out]; rfl, HB2.out⟩
          | true =>
            have c1 := fun d os => Calls.regrown_of (d := d) (os := os) (HC.out d os)
            simp only [hv] at c1
            have HE2 := Lib.hid (show numbB x = true by rw [HNB.out, hv]; simp [h1])
            clear h1 hcnt hv
            have HC1 := Lib.hid c1
            clear c1
            go_wp2_with fail
            refine wp_region_quiet_below (by kernel_rfl) (by kernel_rfl) ?_
            repeat (first | go_big_quiet_step (with_reducible exact HC1.out _ _) | quiet_step (with_reducible exact HC1.out _ _))
            refine wpQuiet_nil ?_
            intro _ hw'
            obtain ⟨⟨dq, osq⟩, hw''⟩ := hw'
            subst hw''
            have HB2 := Lib.hid (after HW.out (below_regrown wr dq osq))
            go_wp2_with fail
            go_roundw
            case rel => exact ⟨n + 1, by omega, by go_num, by rw [HY.out, HT.out, HE2.out]; rfl, HB2.out⟩
            case measure => simp [intOf]; omega
        · have g0 : (x.count != y.count) = true := by rw [hcnt]; simpa using h1
          have HE2 := Lib.hid (show errI (checkB l) = 2 by rw [HE.out, HN.out (by rw [HNB.out]; simp [h1])]; rfl)
          clear h1 hcnt
          go_wp2_with fail
          refine wp_region_quiet_below (by kernel_rfl) (by kernel_rfl) ?_
          repeat (first | go_big_quiet_step (fail) | quiet_step (fail))
          refine wpQuiet_nil ?_
          intro _ hw'
          obtain ⟨⟨dq, osq⟩, hw''⟩ := hw'
          subst hw''
          have HB2 := Lib.hid (HBQ.out.trans ((after HW.out (below_regrown wr dq osq)).mono HBQ.out.size))
          go_wp2_with fail
          go_ret
          exact ⟨by rw [HE2.out]; rfl, HB2.out⟩
      · obtain rfl : n = l.length := by omega
        have ht := HT.out
        rw [List.take_length] at ht
        have HE2 := Lib.hid (show errI (checkB l) = 0 by rw [HE.out, ht]; rfl)
        clear ht
        go_wp2_with fail
        go_ret
        exact ⟨by rw [HE2.out]; rfl, HBQ.out.trans (HW.out.mono HBQ.out.size)⟩
end Go.Proofs.YthiilnhiihfknaaDoor
