/-
  The reader's leaves: number, name, len, keywords: contracts.
-/
import Derived.Test.YtkpbplmmphpokaaGreatDoorERd
namespace Go.Proofs.YtkpbplmmphpokaaGreatDoor.E5
open Go Go.RowKit Go.Sort Go.Proofs.YtkpbplmmphpokaaGreatDoor

theorem er_nil (w : World) (R : Nat → Prop) : S3.ER w R [] (.slice none 0 0) := .mk [] none 0 (fun _ => .slice none 0 0) (by decide) (fun i e hi => by simp at hi) (fun i e hi => by simp at hi)
theorem numP_ok {s : Bytes} {n : Int} (h : N2.numParse s = some n) : S3.okI n := by
  have := (N2.numParse_some h).1
  unfold N2.okI at this
  unfold S3.okI; omega
theorem num_parse (t : Bytes) (w : World) (hG : N2.Glob w) :
    Calls Tryz.prog 216 #[.string (B t)] w fun e w' => e = .returned (.tuple #[N2.encN (N2.numParse t), N2.encE 7 (N2.numParse t)]) ∧ Below w.heap.size w w' := N2.parse_calls (B t) w hG

set_option maxRecDepth 100000 in
set_option maxHeartbeats 1000000 in
theorem rnumber_bad {w : World} {l : TL} {v : Value} {b : RB} {i d : Nat} (h : Rd w l v b i d) (a1 a2 : Int) (hP : N2.encN (N2.numParse (tkAt l i).2) = .int .i64 a1 ∧ N2.encE 7 (N2.numParse (tkAt l i).2) = .int .i64 a2) (hbad : a2 ≠ 0 ∨ (a2 = 0 ∧ a1 < 0)) :
    Calls Tryz.prog 189 #[rp b] w (Post w l v b d (.bad i 7)) := by
  have T := Lib.hid (fun o => token_calls (h.al o))
  have NP := fun W hW => num_parse (tkAt l i).2 W hW
  rw [hP.1, hP.2] at NP
  have NP := Lib.hid NP
  have H := Lib.hid h
  have pH := H.out.ptr
  have hbw0 := h.lt
  generalize tkAt l i = t at *
  clear hP h
  rcases hbad with hb | ⟨rfl, hb⟩
  · have q : (a2 == 0) = false := beq_eq_false_iff_ne.2 hb
    go_enter Tryz.func189, Tryz.ntmps189
    go_wp2_with fail
    refine (T.out _).mono ?_
    rintro e w1 ⟨⟨a, rfl⟩, hb1⟩
    have HB1 := Lib.hid (after (S3.bal w _) hb1)
    clear hb1 T
    have hrt := run_tx
    go_wp2_with fail
    refine (NP.out _ (H.out.bel HB1.out).g.n).mono ?_
    rintro e w2 ⟨rfl, hb2⟩
    have HB2 := Lib.hid (after HB1.out hb2)
    have pH2 := (H.out.bel HB2.out).ptr
    clear hb2 NP
    go_wp2_with fail
    refine (need_no (H.out.bel HB2.out)).mono ?_
    rintro e w3 ⟨rfl, rfl⟩
    go_wp2_with fail
    exact ⟨rfl, rfl, Fr.of HB2.out⟩
  · have q : ¬ (0 : Int) ≤ a1 := by omega
    go_enter Tryz.func189, Tryz.ntmps189
    go_wp2_with fail
    refine (T.out _).mono ?_
    rintro e w1 ⟨⟨a, rfl⟩, hb1⟩
    have HB1 := Lib.hid (after (S3.bal w _) hb1)
    clear hb1 T
    have hrt := run_tx
    go_wp2_with fail
    refine (NP.out _ (H.out.bel HB1.out).g.n).mono ?_
    rintro e w2 ⟨rfl, hb2⟩
    have HB2 := Lib.hid (after HB1.out hb2)
    have pH2 := (H.out.bel HB2.out).ptr
    clear hb2 NP
    go_wp2_with fail
    rw [show decide (0 ≤ a1) = false from decide_eq_false (by omega)]
    refine (need_no (H.out.bel HB2.out)).mono ?_
    rintro e w3 ⟨rfl, rfl⟩
    go_wp2_with fail
    exact ⟨rfl, rfl, Fr.of HB2.out⟩
set_option maxRecDepth 100000 in
set_option maxHeartbeats 1000000 in
theorem rnumber_ok {w : World} {l : TL} {v : Value} {b : RB} {i d : Nat} (h : Rd w l v b i d) (hi : i < l.length) (n : Int) (hn : 0 ≤ n) (hP : N2.numParse (tkAt l i).2 = some n) :
    Calls Tryz.prog 189 #[rp b] w (Post w l v b d (.ok ⟨1, 0, n, [], []⟩ (i + 1))) := by
  have hok := numP_ok hP
  have T := Lib.hid (fun o => token_calls (h.al o))
  have NP := fun W hW => num_parse (tkAt l i).2 W hW
  rw [hP] at NP
  have NP := Lib.hid NP
  have H := Lib.hid h
  have pH := H.out.ptr
  have hbw0 := h.lt
  have Q := Lib.hid (fun a0 a1 a2 a3 a4 => R5.new w a0 a1 a2 a3 a4)
  have hbw := h.lt
  generalize tkAt l i = t at *
  clear hP h
  go_enter Tryz.func189, Tryz.ntmps189
  go_wp2_with fail
  refine (T.out _).mono ?_
  rintro e w1 ⟨⟨a, rfl⟩, hb1⟩
  have HB1 := Lib.hid (after (S3.bal w _) hb1)
  have Q1 := Lib.hid ((Q.out _ _ _ _ _).bel hb1)
  clear hb1 T
  have hrt := run_tx
  go_wp2_with fail
  refine (NP.out _ (H.out.bel HB1.out).g.n).mono ?_
  rintro e w2 ⟨rfl, hb2⟩
  have HB2 := Lib.hid (after HB1.out hb2)
  have Q2 := Lib.hid (Q1.out.bel hb2)
  have pH2 := (H.out.bel HB2.out).ptr
  clear hb2 NP
  simp only [N2.encN, N2.encE]
  go_wp2_with fail
  refine (need_yes b.c _).mono ?_
  rintro e w3 ⟨rfl, rfl⟩
  go_wp2_with fail
  refine (leaf_calls (H.out.bel HB2.out) hi ⟨1, 0, n, [], []⟩ none 0 0).mono ?_
  rintro e w4 ⟨rfl, hr, hf⟩
  have hq2 := Q2.out.lt
  obtain ⟨z0, z1, z2, z3, z4, r0, r1, r2, r3, r4, y0, y1, y2, y3, y4⟩ := (Q2.out.fr (by omega) hf).facts
  have HR := Lib.hid hr
  have pHR := HR.out.ptr
  have HF := Lib.hid hf
  clear hr hf
  go_wp2_with fail
  exact bodyPost_ret (v := S3.eV ⟨1, 0, n, [], []⟩ (.slice none 0 0)) (by simp [results, Tryz.results189, go_sem, r0, r1, r2, r3, r4]) rfl (post_end (wc := w2) (Nat.le_refl _) hq2 hbw (Fr.of HB2.out) (okE_leaf (by decide) hok (by simp)) (er_nil _ _) HR.out HF.out _ _ _ _ _)
theorem rnumber_calls {w : World} {l : TL} {v : Value} {b : RB} {i d : Nat} (h : Rd w l v b i d) (hi : i < l.length) :
    Calls Tryz.prog 189 #[rp b] w (Post w l v b d (numR l i)) := by
  unfold numR numT
  cases hP : N2.numParse (tkAt l i).2 with
  | none => exact rnumber_bad h 0 7 (by rw [hP]; exact ⟨rfl, rfl⟩) (.inl (by decide))
  | some n =>
    simp only
    by_cases hn : 0 ≤ n
    · rw [if_pos hn]; exact rnumber_ok h hi n hn hP
    · rw [if_neg hn]; exact rnumber_bad h n 0 (by rw [hP]; exact ⟨rfl, rfl⟩) (.inr ⟨rfl, by omega⟩)

set_option maxRecDepth 100000 in
set_option maxHeartbeats 1000000 in
theorem rlength_calls {w : World} {l : TL} {v : Value} {b : RB} {i d : Nat} (h : Rd w l v b i d) (hk : (tkAt l i).1 = 3) (hne : (tkAt l i).2 = [108, 101, 110]) :
    Calls Tryz.prog 219 #[rp b] w (Post w l v b d (lenR l i)) := by
  have hi := kind_lt (l := l) (i := i) (by omega)
  have hkw : kwAt l i = [108, 101, 110] := by rw [kwAt_is hk, hne]
  have H := Lib.hid h
  have pH := H.out.ptr
  have Q := Lib.hid (fun a0 a1 a2 a3 a4 => R5.new w a0 a1 a2 a3 a4)
  have hle := h.len
  have hbw := h.lt
  have hnl := h.text (i + 2)
  clear h hk hne
  unfold lenR
  by_cases hp : sgAt l (i + 1) = [40]
  · rw [if_pos hp]
    have HP := Lib.hid hp
    by_cases hn : nmTok (tkAt l (i + 2)) = true
    · rw [if_pos hn]
      have HN := Lib.hid hn
      by_cases hc : sgAt l (i + 3) = [41]
      · rw [if_pos hc]
        have HC := Lib.hid hc
        clear hp hn hc
        go_enter Tryz.func219, Tryz.ntmps219
        go_wp2_with fail
        have HB0 := Lib.hid (S3.bal w (.cells #[.int .i64 0, .int .i64 0, .int .i64 0, .string ⟨#[]⟩, .slice none 0 0] 29))
        have H0 := Lib.hid (H.out.al (.cells #[.int .i64 0, .int .i64 0, .int .i64 0, .string ⟨#[]⟩, .slice none 0 0] 29))
        have pH0 := H0.out.ptr
        have Q0 := Lib.hid (Q.out (.int .i64 0) (.int .i64 0) (.int .i64 0) (.string ⟨#[]⟩) (.slice none 0 0))
        have hz0 : (w.alloc (.cells #[.int .i64 0, .int .i64 0, .int .i64 0, .string ⟨#[]⟩, .slice none 0 0] 29)).heap.size = w.heap.size + 1 := S3.sz1 _ _
        have KY := Lib.hid (fun n os => rkeyw_calls (H0.out.rg n os))
        have pR0 := fun n os => cell_regrown pH0 n os
        rw [hkw] at KY
        generalize w.alloc (.cells #[.int .i64 0, .int .i64 0, .int .i64 0, .string ⟨#[]⟩, .slice none 0 0] 29) = w0 at *
        refine wp_region_quiet_below (by kernel_rfl) (by kernel_rfl) ?_
        repeat (first | go_big_quiet_step (first | with_reducible exact Calls.regrown_of (KY.out _ _) | with_reducible exact Calls.regrown_of (need_yesB _ _)) | quiet_step (first | with_reducible exact Calls.regrown_of (KY.out _ _) | with_reducible exact Calls.regrown_of (need_yesB _ _)))
        refine wpQuiet_nil ?_
        intro _ hw'
        obtain ⟨⟨dq, osq⟩, hw''⟩ := hw'
        subst hw''
        have HB1 := Lib.hid (after HB0.out (below_regrown w0 dq osq))
        have H1 := Lib.hid (H0.out.rg dq osq)
        have pH1 := H1.out.ptr
        have Q1 := Lib.hid (Q0.out.bel (below_regrown w0 dq osq))
        clear KY H0 Q0 HB0 pH0 pR0
        generalize grow (redrawn w0 dq) osq = w1 at *
        obtain ⟨p0, c0, c1, c2, f1, f2⟩ := H1.out.cells
        go_wp2_with fail
        have H2 := Lib.hid (H1.out.inc1 hi)
        have pH2 := H2.out.ptr
        have F2 := Lib.hid ((Fr.of (b := b) HB1.out).setA (.int .i64 ((i : Int) + 1)))
        have Q2 := Lib.hid (Q1.out.fr (b := b) (by omega) ((Fr.refl b w1).setA (.int .i64 ((i : Int) + 1))))
        clear H1 Q1 c0 c1 c2 f1 f2
        generalize w1.setCell ⟨b.c, 1, none⟩ (.int .i64 ((i : Int) + 1)) = w2 at *
        refine (pass_yes H2.out HP.out (by simp)).mono ?_
        rintro e w3 ⟨rfl, hr, hf⟩
        have H3 := Lib.hid hr
        have pH3 := H3.out.ptr
        have F3 := Lib.hid (F2.out.trans hf)
        have Q3 := Lib.hid (Q2.out.fr (by omega) hf)
        clear hr hf H2
        go_wp2_with fail
        refine (rname_yes H3.out HN.out).mono ?_
        rintro e w4 ⟨rfl, hr, hf⟩
        have H4 := Lib.hid hr
        have pH4 := H4.out.ptr
        have F4 := Lib.hid (F3.out.trans hf)
        have Q4 := Lib.hid (Q3.out.fr (by omega) hf)
        clear hr hf H3
        go_wp2_with fail
        refine (pass_yes H4.out HC.out (by simp)).mono ?_
        rintro e w5 ⟨rfl, hr, hf⟩
        have H5 := Lib.hid hr
        have pH5 := H5.out.ptr
        have F5 := Lib.hid (F4.out.trans hf)
        have Q5 := Lib.hid (Q4.out.fr (by omega) hf)
        clear hr hf H4
        have H5' := H5
        have hq5 := Q5.out.lt
        obtain ⟨z0, z1, z2, z3, z4, r0, r1, r2, r3, r4, y0, y1, y2, y3, y4⟩ := Q5.out.facts
        generalize (tkAt l (i + 2)).2 = s at *
        go_wp2_with fail
        exact bodyPost_ret (v := S3.eV ⟨7, 0, 0, s, []⟩ (.slice none 0 0)) (by simp [results, Tryz.results219, go_sem, r0, r1, r2, r3, r4]) rfl (post_end (wc := w5) (Nat.le_refl _) hq5 hbw F5.out (okE_leaf (by decide) (okI_small (by decide) (by decide)) hnl) (er_nil _ _) H5.out (Fr.refl b w5) _ _ _ _ _)
      · rw [if_neg hc]
        have HC := Lib.hid hc
        clear hp hn hc
        go_enter Tryz.func219, Tryz.ntmps219
        go_wp2_with fail
        have HB0 := Lib.hid (S3.bal w (.cells #[.int .i64 0, .int .i64 0, .int .i64 0, .string ⟨#[]⟩, .slice none 0 0] 29))
        have H0 := Lib.hid (H.out.al (.cells #[.int .i64 0, .int .i64 0, .int .i64 0, .string ⟨#[]⟩, .slice none 0 0] 29))
        have pH0 := H0.out.ptr
        have Q0 := Lib.hid (Q.out (.int .i64 0) (.int .i64 0) (.int .i64 0) (.string ⟨#[]⟩) (.slice none 0 0))
        have hz0 : (w.alloc (.cells #[.int .i64 0, .int .i64 0, .int .i64 0, .string ⟨#[]⟩, .slice none 0 0] 29)).heap.size = w.heap.size + 1 := S3.sz1 _ _
        have KY := Lib.hid (fun n os => rkeyw_calls (H0.out.rg n os))
        have pR0 := fun n os => cell_regrown pH0 n os
        rw [hkw] at KY
        generalize w.alloc (.cells #[.int .i64 0, .int .i64 0, .int .i64 0, .string ⟨#[]⟩, .slice none 0 0] 29) = w0 at *
        refine wp_region_quiet_below (by kernel_rfl) (by kernel_rfl) ?_
        repeat (first | go_big_quiet_step (first | with_reducible exact Calls.regrown_of (KY.out _ _) | with_reducible exact Calls.regrown_of (need_yesB _ _)) | quiet_step (first | with_reducible exact Calls.regrown_of (KY.out _ _) | with_reducible exact Calls.regrown_of (need_yesB _ _)))
        refine wpQuiet_nil ?_
        intro _ hw'
        obtain ⟨⟨dq, osq⟩, hw''⟩ := hw'
        subst hw''
        have HB1 := Lib.hid (after HB0.out (below_regrown w0 dq osq))
        have H1 := Lib.hid (H0.out.rg dq osq)
        have pH1 := H1.out.ptr
        have Q1 := Lib.hid (Q0.out.bel (below_regrown w0 dq osq))
        clear KY H0 Q0 HB0 pH0 pR0
        generalize grow (redrawn w0 dq) osq = w1 at *
        obtain ⟨p0, c0, c1, c2, f1, f2⟩ := H1.out.cells
        go_wp2_with fail
        have H2 := Lib.hid (H1.out.inc1 hi)
        have pH2 := H2.out.ptr
        have F2 := Lib.hid ((Fr.of (b := b) HB1.out).setA (.int .i64 ((i : Int) + 1)))
        have Q2 := Lib.hid (Q1.out.fr (b := b) (by omega) ((Fr.refl b w1).setA (.int .i64 ((i : Int) + 1))))
        clear H1 Q1 c0 c1 c2 f1 f2
        generalize w1.setCell ⟨b.c, 1, none⟩ (.int .i64 ((i : Int) + 1)) = w2 at *
        refine (pass_yes H2.out HP.out (by simp)).mono ?_
        rintro e w3 ⟨rfl, hr, hf⟩
        have H3 := Lib.hid hr
        have pH3 := H3.out.ptr
        have F3 := Lib.hid (F2.out.trans hf)
        have Q3 := Lib.hid (Q2.out.fr (by omega) hf)
        clear hr hf H2
        go_wp2_with fail
        refine (rname_yes H3.out HN.out).mono ?_
        rintro e w4 ⟨rfl, hr, hf⟩
        have H4 := Lib.hid hr
        have pH4 := H4.out.ptr
        have F4 := Lib.hid (F3.out.trans hf)
        have Q4 := Lib.hid (Q3.out.fr (by omega) hf)
        clear hr hf H3
        go_wp2_with fail
        refine (pass_no H4.out HC.out).mono ?_
        rintro e w5 ⟨rfl, hf⟩
        have F5 := Lib.hid (F4.out.trans hf)
        clear hf H4
        go_wp2_with fail
        exact ⟨rfl, rfl, F5.out⟩
    · rw [if_neg hn]
      simp only [Bool.not_eq_true] at hn
      have HN := Lib.hid hn
      clear hp hn
      go_enter Tryz.func219, Tryz.ntmps219
      go_wp2_with fail
      have HB0 := Lib.hid (S3.bal w (.cells #[.int .i64 0, .int .i64 0, .int .i64 0, .string ⟨#[]⟩, .slice none 0 0] 29))
      have H0 := Lib.hid (H.out.al (.cells #[.int .i64 0, .int .i64 0, .int .i64 0, .string ⟨#[]⟩, .slice none 0 0] 29))
      have pH0 := H0.out.ptr
      have Q0 := Lib.hid (Q.out (.int .i64 0) (.int .i64 0) (.int .i64 0) (.string ⟨#[]⟩) (.slice none 0 0))
      have hz0 : (w.alloc (.cells #[.int .i64 0, .int .i64 0, .int .i64 0, .string ⟨#[]⟩, .slice none 0 0] 29)).heap.size = w.heap.size + 1 := S3.sz1 _ _
      have KY := Lib.hid (fun n os => rkeyw_calls (H0.out.rg n os))
      have pR0 := fun n os => cell_regrown pH0 n os
      rw [hkw] at KY
      generalize w.alloc (.cells #[.int .i64 0, .int .i64 0, .int .i64 0, .string ⟨#[]⟩, .slice none 0 0] 29) = w0 at *
      refine wp_region_quiet_below (by kernel_rfl) (by kernel_rfl) ?_
      repeat (first | go_big_quiet_step (first | with_reducible exact Calls.regrown_of (KY.out _ _) | with_reducible exact Calls.regrown_of (need_yesB _ _)) | quiet_step (first | with_reducible exact Calls.regrown_of (KY.out _ _) | with_reducible exact Calls.regrown_of (need_yesB _ _)))
      refine wpQuiet_nil ?_
      intro _ hw'
      obtain ⟨⟨dq, osq⟩, hw''⟩ := hw'
      subst hw''
      have HB1 := Lib.hid (after HB0.out (below_regrown w0 dq osq))
      have H1 := Lib.hid (H0.out.rg dq osq)
      have pH1 := H1.out.ptr
      have Q1 := Lib.hid (Q0.out.bel (below_regrown w0 dq osq))
      clear KY H0 Q0 HB0 pH0 pR0
      generalize grow (redrawn w0 dq) osq = w1 at *
      obtain ⟨p0, c0, c1, c2, f1, f2⟩ := H1.out.cells
      go_wp2_with fail
      have H2 := Lib.hid (H1.out.inc1 hi)
      have pH2 := H2.out.ptr
      have F2 := Lib.hid ((Fr.of (b := b) HB1.out).setA (.int .i64 ((i : Int) + 1)))
      have Q2 := Lib.hid (Q1.out.fr (b := b) (by omega) ((Fr.refl b w1).setA (.int .i64 ((i : Int) + 1))))
      clear H1 Q1 c0 c1 c2 f1 f2
      generalize w1.setCell ⟨b.c, 1, none⟩ (.int .i64 ((i : Int) + 1)) = w2 at *
      refine (pass_yes H2.out HP.out (by simp)).mono ?_
      rintro e w3 ⟨rfl, hr, hf⟩
      have H3 := Lib.hid hr
      have pH3 := H3.out.ptr
      have F3 := Lib.hid (F2.out.trans hf)
      have Q3 := Lib.hid (Q2.out.fr (by omega) hf)
      clear hr hf H2
      go_wp2_with fail
      refine (rname_no H3.out HN.out).mono ?_
      rintro e w5 ⟨rfl, hf⟩
      have F5 := Lib.hid (F3.out.trans hf)
      clear hf H3
      go_wp2_with fail
      exact ⟨rfl, rfl, F5.out⟩
  · rw [if_neg hp]
    have HP := Lib.hid hp
    clear hp
    go_enter Tryz.func219, Tryz.ntmps219
    go_wp2_with fail
    have HB0 := Lib.hid (S3.bal w (.cells #[.int .i64 0, .int .i64 0, .int .i64 0, .string ⟨#[]⟩, .slice none 0 0] 29))
    have H0 := Lib.hid (H.out.al (.cells #[.int .i64 0, .int .i64 0, .int .i64 0, .string ⟨#[]⟩, .slice none 0 0] 29))
    have pH0 := H0.out.ptr
    have Q0 := Lib.hid (Q.out (.int .i64 0) (.int .i64 0) (.int .i64 0) (.string ⟨#[]⟩) (.slice none 0 0))
    have hz0 : (w.alloc (.cells #[.int .i64 0, .int .i64 0, .int .i64 0, .string ⟨#[]⟩, .slice none 0 0] 29)).heap.size = w.heap.size + 1 := S3.sz1 _ _
    have KY := Lib.hid (fun n os => rkeyw_calls (H0.out.rg n os))
    have pR0 := fun n os => cell_regrown pH0 n os
    rw [hkw] at KY
    generalize w.alloc (.cells #[.int .i64 0, .int .i64 0, .int .i64 0, .string ⟨#[]⟩, .slice none 0 0] 29) = w0 at *
    refine wp_region_quiet_below (by kernel_rfl) (by kernel_rfl) ?_
    repeat (first | go_big_quiet_step (first | with_reducible exact Calls.regrown_of (KY.out _ _) | with_reducible exact Calls.regrown_of (need_yesB _ _)) | quiet_step (first | with_reducible exact Calls.regrown_of (KY.out _ _) | with_reducible exact Calls.regrown_of (need_yesB _ _)))
    refine wpQuiet_nil ?_
    intro _ hw'
    obtain ⟨⟨dq, osq⟩, hw''⟩ := hw'
    subst hw''
    have HB1 := Lib.hid (after HB0.out (below_regrown w0 dq osq))
    have H1 := Lib.hid (H0.out.rg dq osq)
    have pH1 := H1.out.ptr
    have Q1 := Lib.hid (Q0.out.bel (below_regrown w0 dq osq))
    clear KY H0 Q0 HB0 pH0 pR0
    generalize grow (redrawn w0 dq) osq = w1 at *
    obtain ⟨p0, c0, c1, c2, f1, f2⟩ := H1.out.cells
    go_wp2_with fail
    have H2 := Lib.hid (H1.out.inc1 hi)
    have pH2 := H2.out.ptr
    have F2 := Lib.hid ((Fr.of (b := b) HB1.out).setA (.int .i64 ((i : Int) + 1)))
    have Q2 := Lib.hid (Q1.out.fr (b := b) (by omega) ((Fr.refl b w1).setA (.int .i64 ((i : Int) + 1))))
    clear H1 Q1 c0 c1 c2 f1 f2
    generalize w1.setCell ⟨b.c, 1, none⟩ (.int .i64 ((i : Int) + 1)) = w2 at *
    refine (pass_no H2.out HP.out).mono ?_
    rintro e w5 ⟨rfl, hf⟩
    have F5 := Lib.hid (F2.out.trans hf)
    clear hf H2
    go_wp2_with fail
    exact ⟨rfl, rfl, F5.out⟩

set_option maxRecDepth 100000 in
set_option maxHeartbeats 1000000 in
theorem rlength_no {w : World} {l : TL} {v : Value} {b : RB} {i d : Nat} (h : Rd w l v b i d) (hk : (tkAt l i).1 = 3) (hne : (tkAt l i).2 ≠ [108, 101, 110]) :
    Calls Tryz.prog 219 #[rp b] w (Post w l v b d (.bad i 7)) := by
  have T := Lib.hid (fun W (hW : Rd W l v b i d) => rkeyw_calls hW)
  have H := Lib.hid h
  have hbw := h.lt
  have pH := H.out.ptr
  have q : (kwAt l i == [108, 101, 110]) = false := by rw [kwAt_is hk]; exact beq_eq_false_iff_ne.2 hne
  generalize kwAt l i = t at *
  clear h hne hk
  go_enter Tryz.func219, Tryz.ntmps219
  go_wp2_with fail
  go_region_with (first
    | (go_at_call 124; refine (T.out _ (by exact (H.out.al _).dr)).mono ?_; rintro e w1 ⟨rfl, hb1⟩; have HB1 := Lib.hid (after (S3.bal w _).drew hb1); have H1 := Lib.hid ((H.out.al _).dr.bel hb1); have pH1 := H1.out.ptr; clear hb1)
    | (go_at_call 138; refine (need_no H1.out).mono ?_; rintro e w3 ⟨rfl, rfl⟩; go_simp; refine fake_any (by exact ⟨rfl, rfl, Fr.of HB1.out⟩) ?_))
  all_goals exact trivial

set_option maxRecDepth 100000 in
set_option maxHeartbeats 1000000 in
theorem rkey_true {w : World} {l : TL} {v : Value} {b : RB} {i d : Nat} (h : Rd w l v b i d) (hk : (tkAt l i).1 = 3) (hi : i < l.length) (ht : (tkAt l i).2 = [116, 114, 117, 101]) :
    Calls Tryz.prog 191 #[rp b] w (Post w l v b d (.ok ⟨2, 0, 1, [], []⟩ (i + 1))) := by
  have T := fun o => rkeyw_calls (h.al o)
  rw [kwAt_is hk, ht] at T
  have T := Lib.hid T
  have H := Lib.hid h
  have pH := H.out.ptr
  have Q := Lib.hid (fun a0 a1 a2 a3 a4 => R5.new w a0 a1 a2 a3 a4)
  have hle := h.len
  have hbw := h.lt
  clear h ht hk
  go_enter Tryz.func191, Tryz.ntmps191
  go_wp2_with fail
  refine (T.out _).mono ?_
  rintro e w1 ⟨rfl, hb1⟩
  have HB1 := Lib.hid (after (S3.bal w _) hb1)
  have H1 := Lib.hid ((H.out.al _).bel hb1)
  have pH1 := H1.out.ptr
  have Q1 := Lib.hid ((Q.out _ _ _ _ _).bel hb1)
  clear hb1 T
  go_wp2_with fail
  refine (leaf_calls H1.out hi ⟨2, 0, 1, [], []⟩ none 0 0).mono ?_
  rintro e w4 ⟨rfl, hr, hf⟩
  have hq2 := Q1.out.lt
  obtain ⟨z0, z1, z2, z3, z4, r0, r1, r2, r3, r4, y0, y1, y2, y3, y4⟩ := (Q1.out.fr (by omega) hf).facts
  have HR := Lib.hid hr
  have pHR := HR.out.ptr
  have HF := Lib.hid hf
  clear hr hf
  go_wp2_with fail
  exact bodyPost_ret (v := S3.eV ⟨2, 0, 1, [], []⟩ (.slice none 0 0)) (by simp [results, Tryz.results191, go_sem, r0, r1, r2, r3, r4]) rfl (post_end (wc := w1) (Nat.le_refl _) hq2 hbw (Fr.of HB1.out) (okE_leaf (by decide) (okI_small (by decide) (by decide)) (by simp)) (er_nil _ _) HR.out HF.out _ _ _ _ _)
set_option maxRecDepth 100000 in
set_option maxHeartbeats 1000000 in
theorem rkey_false {w : World} {l : TL} {v : Value} {b : RB} {i d : Nat} (h : Rd w l v b i d) (hk : (tkAt l i).1 = 3) (hi : i < l.length) (ht : (tkAt l i).2 = [102, 97, 108, 115, 101]) :
    Calls Tryz.prog 191 #[rp b] w (Post w l v b d (.ok ⟨2, 0, 0, [], []⟩ (i + 1))) := by
  have T := fun o => rkeyw_calls (h.al o)
  rw [kwAt_is hk, ht] at T
  have T := Lib.hid T
  have H := Lib.hid h
  have pH := H.out.ptr
  have Q := Lib.hid (fun a0 a1 a2 a3 a4 => R5.new w a0 a1 a2 a3 a4)
  have hle := h.len
  have hbw := h.lt
  clear h ht hk
  go_enter Tryz.func191, Tryz.ntmps191
  go_wp2_with fail
  refine (T.out _).mono ?_
  rintro e w1 ⟨rfl, hb1⟩
  have HB1 := Lib.hid (after (S3.bal w _) hb1)
  have H1 := Lib.hid ((H.out.al _).bel hb1)
  have pH1 := H1.out.ptr
  have Q1 := Lib.hid ((Q.out _ _ _ _ _).bel hb1)
  clear hb1 T
  go_wp2_with fail
  refine (leaf_calls H1.out hi ⟨2, 0, 0, [], []⟩ none 0 0).mono ?_
  rintro e w4 ⟨rfl, hr, hf⟩
  have hq2 := Q1.out.lt
  obtain ⟨z0, z1, z2, z3, z4, r0, r1, r2, r3, r4, y0, y1, y2, y3, y4⟩ := (Q1.out.fr (by omega) hf).facts
  have HR := Lib.hid hr
  have pHR := HR.out.ptr
  have HF := Lib.hid hf
  clear hr hf
  go_wp2_with fail
  exact bodyPost_ret (v := S3.eV ⟨2, 0, 0, [], []⟩ (.slice none 0 0)) (by simp [results, Tryz.results191, go_sem, r0, r1, r2, r3, r4]) rfl (post_end (wc := w1) (Nat.le_refl _) hq2 hbw (Fr.of HB1.out) (okE_leaf (by decide) (okI_small (by decide) (by decide)) (by simp)) (er_nil _ _) HR.out HF.out _ _ _ _ _)
set_option maxRecDepth 100000 in
set_option maxHeartbeats 1000000 in
theorem rkey_other {w : World} {l : TL} {v : Value} {b : RB} {i d : Nat} (h : Rd w l v b i d) (hk : (tkAt l i).1 = 3) (h1 : (tkAt l i).2 ≠ [116, 114, 117, 101]) (h2 : (tkAt l i).2 ≠ [102, 97, 108, 115, 101]) (r : Res)
    (C : ∀ W, Rd W l v b i d → Calls Tryz.prog 219 #[rp b] W (Post W l v b d r)) :
    Calls Tryz.prog 191 #[rp b] w (Post w l v b d r) := by
  have T := Lib.hid (fun o => rkeyw_calls (h.al o))
  have H := Lib.hid h
  have pH := H.out.ptr
  have Q := Lib.hid (fun a0 a1 a2 a3 a4 => R5.new w a0 a1 a2 a3 a4)
  have hbw := h.lt
  have C := Lib.hid C
  have q1 : (kwAt l i == [116, 114, 117, 101]) = false := by rw [kwAt_is hk]; exact beq_eq_false_iff_ne.2 h1
  have q2 : (kwAt l i == [102, 97, 108, 115, 101]) = false := by rw [kwAt_is hk]; exact beq_eq_false_iff_ne.2 h2
  generalize kwAt l i = t at *
  clear h h1 h2 hk
  go_enter Tryz.func191, Tryz.ntmps191
  go_wp2_with fail
  refine (T.out _).mono ?_
  rintro e w1 ⟨rfl, hb1⟩
  have HB1 := Lib.hid (after (S3.bal w _) hb1)
  have H1 := Lib.hid ((H.out.al _).bel hb1)
  have pH1 := H1.out.ptr
  have Q1 := Lib.hid ((Q.out _ _ _ _ _).bel hb1)
  clear hb1 T
  go_wp2_with fail
  refine (C.out _ H1.out).mono ?_
  intro E w4 hP
  cases r with
  | bad j c =>
    obtain ⟨rfl, hf⟩ := hP
    have HF := Lib.hid hf
    clear hf
    go_wp2_with fail
    exact ⟨rfl, rfl, (Fr.of HB1.out).trans HF.out⟩
  | ok e n =>
    obtain ⟨A, k, c, rfl, ho, hE, hr, hf⟩ := hP
    have hq2 := Q1.out.lt
    obtain ⟨z0, z1, z2, z3, z4, r0, r1, r2, r3, r4, y0, y1, y2, y3, y4⟩ := (Q1.out.fr (by omega) hf).facts
    have HR := Lib.hid hr
    have pHR := HR.out.ptr
    have HF := Lib.hid hf
    have HE := Lib.hid hE
    have HO := Lib.hid ho
    clear hr hf hE ho
    go_wp2_with fail
    exact bodyPost_ret (v := S3.eV e (.slice A k c)) (by simp [results, Tryz.results191, go_sem, r0, r1, r2, r3, r4]) rfl (post_end (wc := w1) (Nat.le_refl _) hq2 hbw (Fr.of HB1.out) HO.out HE.out HR.out HF.out _ _ _ _ _)
theorem rkeyword_calls {w : World} {l : TL} {v : Value} {b : RB} {i d : Nat} (h : Rd w l v b i d) (hk : (tkAt l i).1 = 3) :
    Calls Tryz.prog 191 #[rp b] w (Post w l v b d (keyR l i)) := by
  have hi := kind_lt (l := l) (i := i) (by omega)
  unfold keyR
  by_cases h1 : (tkAt l i).2 = [116, 114, 117, 101]
  · rw [if_pos h1]; exact rkey_true h hk hi h1
  rw [if_neg h1]
  by_cases h2 : (tkAt l i).2 = [102, 97, 108, 115, 101]
  · rw [if_pos h2]; exact rkey_false h hk hi h2
  rw [if_neg h2]
  by_cases h3 : (tkAt l i).2 = [108, 101, 110]
  · rw [if_pos h3]; exact rkey_other h hk h1 h2 _ fun W hW => rlength_calls hW hk h3
  · rw [if_neg h3]; exact rkey_other h hk h1 h2 _ fun W hW => rlength_no hW hk h3
end Go.Proofs.YtkpbplmmphpokaaGreatDoor.E5
