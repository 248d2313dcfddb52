/-
  signed, variable: contracts out of those of the others. Written by gen5_rd4.py.
-/
import Derived.Test.YtkpbplmmphpokaaGreatDoorERd3
namespace Go.Proofs.YtkpbplmmphpokaaGreatDoor.E5
open Go Go.RowKit Go.Sort Go.Proofs.YtkpbplmmphpokaaGreatDoor

set_option maxRecDepth 100000 in
set_option maxHeartbeats 1000000 in
theorem rsigned_minus {w : World} {l : TL} {v : Value} {b : RB} {i d : Nat} (h : Rd w l v b i d) (hs : sgAt l i = [45]) (r : Res)
    (C : ∀ W, Rd W l v b i d → Calls Tryz.prog 220 #[rp b, .int .i64 14] W (Post W l v b d r)) :
    Calls Tryz.prog 192 #[rp b] w (Post w l v b d r) := by
  have S := fun o => rsign_calls (h.al o)
  rw [hs] at S
  have S := Lib.hid S
  have H := Lib.hid (fun o => h.al o)
  have pH := h.ptr
  have Q := Lib.hid (fun a0 a1 a2 a3 a4 => R5.new w a0 a1 a2 a3 a4)
  have hbw := h.lt
  have C := Lib.hid C
  clear h
  clear hs
  go_enter Tryz.func192, Tryz.ntmps192
  go_wp2_with fail
  refine (S.out _).mono ?_
  rintro e w1 ⟨rfl, hb1⟩
  have HB1 := Lib.hid (after (S3.bal w _) hb1)
  have F1 := Lib.hid (Fr.of (b := b) HB1.out)
  have H1 := Lib.hid ((H.out _).bel hb1)
  have pH1 := H1.out.ptr
  have Q1 := Lib.hid ((Q.out _ _ _ _ _).bel hb1)
  clear hb1
  go_wp2_with fail
  refine (C.out _ H1.out).mono ?_
  intro E w9 hP
  cases r with
  | bad j c =>
    obtain ⟨rfl, hf⟩ := hP
    have HF := Lib.hid hf
    clear hf
    go_wp2_with fail
    exact ⟨rfl, rfl, F1.out.trans HF.out⟩
  | ok e n =>
    obtain ⟨A, k, c, rfl, ho, hE, hr, hf⟩ := hP
    have hq2 := Q1.out.lt
    obtain ⟨z0, z1, z2, z3, z4, r0, r1, r2, r3, r4, y0, y1, y2, y3, y4⟩ := (Q1.out.fr (by omega) hf).facts
    have HR := Lib.hid hr
    have pHR := HR.out.ptr
    have HF := Lib.hid hf
    have HE := Lib.hid hE
    have HO := Lib.hid ho
    clear hr hf hE ho
    go_wp2_with fail
    exact bodyPost_ret (v := S3.eV e (.slice A k c)) (by simp [results, Tryz.results192, go_sem, r0, r1, r2, r3, r4]) rfl (post_end (Nat.le_refl _) hq2 hbw F1.out HO.out HE.out HR.out HF.out _ _ _ _ _)
set_option maxRecDepth 100000 in
set_option maxHeartbeats 1000000 in
theorem rsigned_not {w : World} {l : TL} {v : Value} {b : RB} {i d : Nat} (h : Rd w l v b i d) (hs : sgAt l i = [33]) (r : Res)
    (C : ∀ W, Rd W l v b i d → Calls Tryz.prog 220 #[rp b, .int .i64 15] W (Post W l v b d r)) :
    Calls Tryz.prog 192 #[rp b] w (Post w l v b d r) := by
  have S := fun o => rsign_calls (h.al o)
  rw [hs] at S
  have S := Lib.hid S
  have H := Lib.hid (fun o => h.al o)
  have pH := h.ptr
  have Q := Lib.hid (fun a0 a1 a2 a3 a4 => R5.new w a0 a1 a2 a3 a4)
  have hbw := h.lt
  have C := Lib.hid C
  clear h
  clear hs
  go_enter Tryz.func192, Tryz.ntmps192
  go_wp2_with fail
  refine (S.out _).mono ?_
  rintro e w1 ⟨rfl, hb1⟩
  have HB1 := Lib.hid (after (S3.bal w _) hb1)
  have F1 := Lib.hid (Fr.of (b := b) HB1.out)
  have H1 := Lib.hid ((H.out _).bel hb1)
  have pH1 := H1.out.ptr
  have Q1 := Lib.hid ((Q.out _ _ _ _ _).bel hb1)
  clear hb1
  go_wp2_with fail
  refine (C.out _ H1.out).mono ?_
  intro E w9 hP
  cases r with
  | bad j c =>
    obtain ⟨rfl, hf⟩ := hP
    have HF := Lib.hid hf
    clear hf
    go_wp2_with fail
    exact ⟨rfl, rfl, F1.out.trans HF.out⟩
  | ok e n =>
    obtain ⟨A, k, c, rfl, ho, hE, hr, hf⟩ := hP
    have hq2 := Q1.out.lt
    obtain ⟨z0, z1, z2, z3, z4, r0, r1, r2, r3, r4, y0, y1, y2, y3, y4⟩ := (Q1.out.fr (by omega) hf).facts
    have HR := Lib.hid hr
    have pHR := HR.out.ptr
    have HF := Lib.hid hf
    have HE := Lib.hid hE
    have HO := Lib.hid ho
    clear hr hf hE ho
    go_wp2_with fail
    exact bodyPost_ret (v := S3.eV e (.slice A k c)) (by simp [results, Tryz.results192, go_sem, r0, r1, r2, r3, r4]) rfl (post_end (Nat.le_refl _) hq2 hbw F1.out HO.out HE.out HR.out HF.out _ _ _ _ _)
set_option maxRecDepth 100000 in
set_option maxHeartbeats 1000000 in
theorem rsigned_par {w : World} {l : TL} {v : Value} {b : RB} {i d : Nat} (h : Rd w l v b i d) (hs : sgAt l i = [40]) (r : Res)
    (C : ∀ W, Rd W l v b i d → Calls Tryz.prog 218 #[rp b, .string (B [41])] W (Post W l v b d r)) :
    Calls Tryz.prog 192 #[rp b] w (Post w l v b d r) := by
  have S := fun o => rsign_calls (h.al o)
  rw [hs] at S
  have S := Lib.hid S
  have H := Lib.hid (fun o => h.al o)
  have pH := h.ptr
  have Q := Lib.hid (fun a0 a1 a2 a3 a4 => R5.new w a0 a1 a2 a3 a4)
  have hbw := h.lt
  have C := Lib.hid C
  clear h
  go_enter Tryz.func192, Tryz.ntmps192
  go_wp2_with fail
  refine (S.out _).mono ?_
  rintro e w1 ⟨rfl, hb1⟩
  have HB1 := Lib.hid (after (S3.bal w _) hb1)
  have H1 := Lib.hid ((H.out _).bel hb1)
  have pH1 := H1.out.ptr
  have Q1 := Lib.hid ((Q.out _ _ _ _ _).bel hb1)
  clear hb1
  go_wp2_with fail
  have KY := Lib.hid (fun n os => rsign_calls (H1.out.rg n os))
  rw [hs] at KY
  have pR := fun n os => cell_regrown pH1 n os
  refine wp_region_quiet_below (by kernel_rfl) (by kernel_rfl) ?_
  repeat (first | go_big_quiet_step (first | with_reducible exact Calls.regrown_of (KY.out _ _) | with_reducible exact Calls.regrown_of (need_yesB _ _)) | quiet_step (first | with_reducible exact Calls.regrown_of (KY.out _ _) | with_reducible exact Calls.regrown_of (need_yesB _ _)))
  refine wpQuiet_nil ?_
  intro _ hw'
  obtain ⟨⟨dq, osq⟩, hw''⟩ := hw'
  subst hw''
  have HB2 := Lib.hid (after HB1.out (below_regrown w1 dq osq))
  have H2 := Lib.hid (H1.out.rg dq osq)
  have pH2 := H2.out.ptr
  have Q2 := Lib.hid (Q1.out.bel (below_regrown w1 dq osq))
  clear KY pR H1 Q1 pH1
  generalize grow (redrawn w1 dq) osq = w2 at *
  have F2 := Lib.hid (Fr.of (b := b) HB2.out)
  clear hs
  go_wp2_with fail
  refine (C.out _ H2.out).mono ?_
  intro E w9 hP
  cases r with
  | bad j c =>
    obtain ⟨rfl, hf⟩ := hP
    have HF := Lib.hid hf
    clear hf
    go_wp2_with fail
    exact ⟨rfl, rfl, F2.out.trans HF.out⟩
  | ok e n =>
    obtain ⟨A, k, c, rfl, ho, hE, hr, hf⟩ := hP
    have hq2 := Q2.out.lt
    obtain ⟨z0, z1, z2, z3, z4, r0, r1, r2, r3, r4, y0, y1, y2, y3, y4⟩ := (Q2.out.fr (by omega) hf).facts
    have HR := Lib.hid hr
    have pHR := HR.out.ptr
    have HF := Lib.hid hf
    have HE := Lib.hid hE
    have HO := Lib.hid ho
    clear hr hf hE ho
    go_wp2_with fail
    exact bodyPost_ret (v := S3.eV e (.slice A k c)) (by simp [results, Tryz.results192, go_sem, r0, r1, r2, r3, r4]) rfl (post_end (Nat.le_refl _) hq2 hbw F2.out HO.out HE.out HR.out HF.out _ _ _ _ _)
set_option maxRecDepth 100000 in
set_option maxHeartbeats 1000000 in
theorem rsigned_no {w : World} {l : TL} {v : Value} {b : RB} {i d : Nat} (h : Rd w l v b i d) (h1 : sgAt l i ≠ [45]) (h2 : sgAt l i ≠ [33]) (h3 : sgAt l i ≠ [40]) :
    Calls Tryz.prog 192 #[rp b] w (Post w l v b d (.bad i 7)) := by
  have S := Lib.hid (fun o => rsign_calls (h.al o))
  have q1 : (sgAt l i == [45]) = false := beq_eq_false_iff_ne.2 h1
  have q2 : (sgAt l i == [33]) = false := beq_eq_false_iff_ne.2 h2
  have q3 : (sgAt l i == [40]) = false := beq_eq_false_iff_ne.2 h3
  have C := True.intro
  have H := Lib.hid (fun o => h.al o)
  have pH := h.ptr
  have Q := Lib.hid (fun a0 a1 a2 a3 a4 => R5.new w a0 a1 a2 a3 a4)
  have hbw := h.lt
  have C := Lib.hid C
  clear h
  clear h1 h2 h3
  go_enter Tryz.func192, Tryz.ntmps192
  go_wp2_with fail
  refine (S.out _).mono ?_
  rintro e w1 ⟨rfl, hb1⟩
  have HB1 := Lib.hid (after (S3.bal w _) hb1)
  have H1 := Lib.hid ((H.out _).bel hb1)
  have pH1 := H1.out.ptr
  have Q1 := Lib.hid ((Q.out _ _ _ _ _).bel hb1)
  clear hb1
  go_wp2_with fail
  have T := Lib.hid (fun W (hW : Rd W l v b i d) => rsign_calls hW)
  go_region_with (first
    | (go_at_call 109; refine (T.out _ (by exact H1.out.dr)).mono ?_; rintro e w2 ⟨rfl, hb2⟩; have HB2 := Lib.hid (after HB1.out.drew hb2); have H2 := Lib.hid (H1.out.dr.bel hb2); have pH2 := H2.out.ptr; clear hb2)
    | (go_at_call 138; refine (need_no H2.out).mono ?_; rintro e w3 ⟨rfl, rfl⟩; go_simp; refine fake_any (by exact ⟨rfl, rfl, Fr.of HB2.out⟩) ?_))
  all_goals exact trivial
set_option maxRecDepth 100000 in
set_option maxHeartbeats 1000000 in
theorem rvar_bad {w : World} {l : TL} {v : Value} {b : RB} {i d : Nat} (h : Rd w l v b i d) (hn : nmTok (tkAt l i) = false) :
    Calls Tryz.prog 190 #[rp b] w (Post w l v b d (.bad i 7)) := by
  have HN := Lib.hid hn
  have C := True.intro
  have H := Lib.hid (fun o => h.al o)
  have pH := h.ptr
  have Q := Lib.hid (fun a0 a1 a2 a3 a4 => R5.new w a0 a1 a2 a3 a4)
  have hbw := h.lt
  have C := Lib.hid C
  clear h
  clear hn
  go_enter Tryz.func190, Tryz.ntmps190
  go_wp2_with fail
  refine (rname_no (H.out _) HN.out).mono ?_
  rintro e w1 ⟨rfl, hf⟩
  have HF := Lib.hid hf
  clear hf
  go_wp2_with fail
  exact ⟨rfl, rfl, (Fr.of (S3.bal w _)).trans HF.out⟩
set_option maxRecDepth 100000 in
set_option maxHeartbeats 1000000 in
theorem rvar_plain {w : World} {l : TL} {v : Value} {b : RB} {i d : Nat} (h : Rd w l v b i d) (hn : nmTok (tkAt l i) = true) (hs : sgAt l (i + 1) ≠ [91]) :
    Calls Tryz.prog 190 #[rp b] w (Post w l v b d (.ok ⟨3, 0, 0, (tkAt l i).2, []⟩ (i + 1))) := by
  have HN := Lib.hid hn
  have hln := h.text i
  have q : (sgAt l (i + 1) == [91]) = false := beq_eq_false_iff_ne.2 hs
  have C := True.intro
  have H := Lib.hid (fun o => h.al o)
  have pH := h.ptr
  have Q := Lib.hid (fun a0 a1 a2 a3 a4 => R5.new w a0 a1 a2 a3 a4)
  have hbw := h.lt
  have C := Lib.hid C
  clear h
  clear hn hs
  go_enter Tryz.func190, Tryz.ntmps190
  go_wp2_with fail
  refine (rname_yes (H.out _) HN.out).mono ?_
  rintro e w1 ⟨rfl, hr, hf⟩
  have H1 := Lib.hid hr
  have pH1 := H1.out.ptr
  have F1 := Lib.hid ((Fr.of (S3.bal w _)).trans hf)
  have Q1 := Lib.hid ((Q.out _ _ _ _ _).fr (by omega) hf)
  have S := Lib.hid (rsign_calls hr)
  clear hr hf
  go_wp2_with fail
  refine S.out.mono ?_
  rintro e w2 ⟨rfl, hb2⟩
  have H2 := Lib.hid (H1.out.bel hb2)
  have pH2 := H2.out.ptr
  have F2 := Lib.hid (F1.out.trans (Fr.of (b := b) hb2))
  have Q2 := Lib.hid (Q1.out.bel hb2)
  clear hb2 S H1 Q1
  have hq2 := Q2.out.lt
  obtain ⟨z0, z1, z2, z3, z4, r0, r1, r2, r3, r4, y0, y1, y2, y3, y4⟩ := Q2.out.facts
  generalize (tkAt l i).2 = s at *
  go_wp2_with fail
  exact bodyPost_ret (v := S3.eV ⟨3, 0, 0, s, []⟩ (.slice none 0 0)) (by simp [results, Tryz.results190, go_sem, r0, r1, r2, r3, r4]) rfl (post_end (Nat.le_refl _) hq2 hbw F2.out (okE_leaf (by decide) (okI_small (by decide) (by decide)) hln) (er_nil _ _) H2.out (Fr.refl b _) _ _ _ _ _)
set_option maxRecDepth 100000 in
set_option maxHeartbeats 1000000 in
theorem rvar_ibad {w : World} {l : TL} {v : Value} {b : RB} {i d : Nat} (h : Rd w l v b i d) (hn : nmTok (tkAt l i) = true) (hs : sgAt l (i + 1) = [91]) (j : Nat) (c : Int)
    (C : ∀ W, Rd W l v b (i + 1) d → Calls Tryz.prog 218 #[rp b, .string (B [93])] W (Post W l v b d (.bad j c))) :
    Calls Tryz.prog 190 #[rp b] w (Post w l v b d (.bad j c)) := by
  have HN := Lib.hid hn
  have hln := h.text i
  have H := Lib.hid (fun o => h.al o)
  have pH := h.ptr
  have Q := Lib.hid (fun a0 a1 a2 a3 a4 => R5.new w a0 a1 a2 a3 a4)
  have hbw := h.lt
  have C := Lib.hid C
  clear h
  clear hn
  go_enter Tryz.func190, Tryz.ntmps190
  go_wp2_with fail
  refine (rname_yes (H.out _) HN.out).mono ?_
  rintro e w1 ⟨rfl, hr, hf⟩
  have H1 := Lib.hid hr
  have pH1 := H1.out.ptr
  have F1 := Lib.hid ((Fr.of (S3.bal w _)).trans hf)
  have Q1 := Lib.hid ((Q.out _ _ _ _ _).fr (by omega) hf)
  have S := Lib.hid (rsign_calls hr)
  clear hr hf
  go_wp2_with fail
  refine S.out.mono ?_
  rintro e w2 ⟨rfl, hb2⟩
  have H2 := Lib.hid (H1.out.bel hb2)
  have pH2 := H2.out.ptr
  have F2 := Lib.hid (F1.out.trans (Fr.of (b := b) hb2))
  have Q2 := Lib.hid (Q1.out.bel hb2)
  clear hb2 S H1 Q1
  rw [hs]
  clear hs
  generalize (tkAt l i).2 = s at *
  go_wp2_with fail
  refine (C.out _ H2.out).mono ?_
  rintro E w3 ⟨rfl, hf⟩
  have HF := Lib.hid hf
  clear hf
  go_wp2_with fail
  exact ⟨rfl, rfl, F2.out.trans HF.out⟩
set_option maxRecDepth 100000 in
set_option maxHeartbeats 1000000 in
theorem rvar_iyes {w : World} {l : TL} {v : Value} {b : RB} {i d : Nat} (h : Rd w l v b i d) (hn : nmTok (tkAt l i) = true) (hs : sgAt l (i + 1) = [91]) (e : Ex) (n : Nat) (hx : S3.exB ⟨6, 0, 0, (tkAt l i).2, [e]⟩ = true)
    (C : ∀ W, Rd W l v b (i + 1) d → Calls Tryz.prog 218 #[rp b, .string (B [93])] W (Post W l v b d (.ok e n))) :
    Calls Tryz.prog 190 #[rp b] w (Post w l v b d (.ok ⟨6, 0, 0, (tkAt l i).2, [e]⟩ n)) := by
  have HN := Lib.hid hn
  have hln := h.text i
  have H := Lib.hid (fun o => h.al o)
  have pH := h.ptr
  have Q := Lib.hid (fun a0 a1 a2 a3 a4 => R5.new w a0 a1 a2 a3 a4)
  have hbw := h.lt
  have C := Lib.hid C
  clear h
  clear hn
  go_enter Tryz.func190, Tryz.ntmps190
  go_wp2_with fail
  refine (rname_yes (H.out _) HN.out).mono ?_
  rintro e w1 ⟨rfl, hr, hf⟩
  have H1 := Lib.hid hr
  have pH1 := H1.out.ptr
  have F1 := Lib.hid ((Fr.of (S3.bal w _)).trans hf)
  have Q1 := Lib.hid ((Q.out _ _ _ _ _).fr (by omega) hf)
  have S := Lib.hid (rsign_calls hr)
  clear hr hf
  go_wp2_with fail
  refine S.out.mono ?_
  rintro e w2 ⟨rfl, hb2⟩
  have H2 := Lib.hid (H1.out.bel hb2)
  have pH2 := H2.out.ptr
  have F2 := Lib.hid (F1.out.trans (Fr.of (b := b) hb2))
  have Q2 := Lib.hid (Q1.out.bel hb2)
  clear hb2 S H1 Q1
  rw [hs]
  clear hs
  generalize (tkAt l i).2 = s at *
  go_wp2_with fail
  refine (C.out _ H2.out).mono ?_
  rintro E w3 ⟨A, k, c, rfl, ho, hE, hr, hf⟩
  have hq2 := Q2.out.lt
  have Q3 := Lib.hid (Q2.out.fr (by omega) hf)
  have HR := Lib.hid hr
  have pHR := HR.out.ptr
  have HF := Lib.hid hf
  have HE := Lib.hid hE
  have HO := Lib.hid ho
  have hb3 := hr.lt
  have hz3 := hf.size
  clear hr hf hE ho C Q2
  go_wp2_with fail
  have HX := Lib.hid ((HR.out.al (S3.eO e (.slice A k c))).al (S3.eO e (.slice A k c)))
  have pHX := HX.out.ptr
  have FX := Lib.hid (((Fr.refl b w3).al (S3.eO e (.slice A k c))).al (S3.eO e (.slice A k c)))
  have FY := Lib.hid ((Fr.refl b w3).al (S3.eO e (.slice A k c)))
  have EX := er_one HO.out (n := w2.heap.size) (by have := FY.out.size; omega) (er_fr HE.out (by omega) FY.out)
  rw [show (w3.alloc (S3.eO e (.slice A k c))).heap.size = w3.heap.size + 1 from S3.sz1 _ _] at EX
  have EX := Lib.hid EX
  have QX := Lib.hid (Q3.out.fr (by omega) FX.out)
  have ho4 := Lib.hid (okE_op (k := 6) (s := s) (args := [e]) (by decide) (okI_small (Int.le_refl 0) (by decide)) hln)
  generalize (w3.alloc (S3.eO e (.slice A k c))).alloc (S3.eO e (.slice A k c)) = w4 at *
  clear Q3 HR HE FY
  refine (whole_yes HX.out ⟨6, 0, 0, s, [e]⟩ ho4.out _ 1 1 (er_in EX.out (Nat.le_refl _)) hx).mono ?_
  rintro E w5 ⟨rfl, hb⟩
  have HB := Lib.hid hb
  obtain ⟨z0, z1, z2, z3, z4, r0, r1, r2, r3, r4, y0, y1, y2, y3, y4⟩ := (QX.out.bel hb).facts
  clear hb
  go_wp2_with fail
  exact bodyPost_ret (v := S3.eV ⟨6, 0, 0, s, [e]⟩ (.slice (some ⟨w3.heap.size + 1, 0, none⟩) 1 1)) (by simp [results, Tryz.results190, go_sem, r0, r1, r2, r3, r4]) rfl (post_end (wc := w2) (Nat.le_refl _) hq2 hbw F2.out ho4.out (er_bel EX.out HB.out) (HX.out.bel HB.out) ((HF.out.trans FX.out).trans (Fr.of HB.out)) _ _ _ _ _)
set_option maxRecDepth 100000 in
set_option maxHeartbeats 1000000 in
theorem rvar_ino {w : World} {l : TL} {v : Value} {b : RB} {i d : Nat} (h : Rd w l v b i d) (hn : nmTok (tkAt l i) = true) (hs : sgAt l (i + 1) = [91]) (e : Ex) (n : Nat) (h1n : 1 ≤ n) (hx : S3.exB ⟨6, 0, 0, (tkAt l i).2, [e]⟩ = false)
    (C : ∀ W, Rd W l v b (i + 1) d → Calls Tryz.prog 218 #[rp b, .string (B [93])] W (Post W l v b d (.ok e n))) :
    Calls Tryz.prog 190 #[rp b] w (Post w l v b d (.bad (n - 1) 8)) := by
  have HN := Lib.hid hn
  have hln := h.text i
  have H := Lib.hid (fun o => h.al o)
  have pH := h.ptr
  have Q := Lib.hid (fun a0 a1 a2 a3 a4 => R5.new w a0 a1 a2 a3 a4)
  have hbw := h.lt
  have C := Lib.hid C
  clear h
  clear hn
  go_enter Tryz.func190, Tryz.ntmps190
  go_wp2_with fail
  refine (rname_yes (H.out _) HN.out).mono ?_
  rintro e w1 ⟨rfl, hr, hf⟩
  have H1 := Lib.hid hr
  have pH1 := H1.out.ptr
  have F1 := Lib.hid ((Fr.of (S3.bal w _)).trans hf)
  have Q1 := Lib.hid ((Q.out _ _ _ _ _).fr (by omega) hf)
  have S := Lib.hid (rsign_calls hr)
  clear hr hf
  go_wp2_with fail
  refine S.out.mono ?_
  rintro e w2 ⟨rfl, hb2⟩
  have H2 := Lib.hid (H1.out.bel hb2)
  have pH2 := H2.out.ptr
  have F2 := Lib.hid (F1.out.trans (Fr.of (b := b) hb2))
  have Q2 := Lib.hid (Q1.out.bel hb2)
  clear hb2 S H1 Q1
  rw [hs]
  clear hs
  generalize (tkAt l i).2 = s at *
  go_wp2_with fail
  refine (C.out _ H2.out).mono ?_
  rintro E w3 ⟨A, k, c, rfl, ho, hE, hr, hf⟩
  have hq2 := Q2.out.lt
  have Q3 := Lib.hid (Q2.out.fr (by omega) hf)
  have HR := Lib.hid hr
  have pHR := HR.out.ptr
  have HF := Lib.hid hf
  have HE := Lib.hid hE
  have HO := Lib.hid ho
  have hb3 := hr.lt
  have hz3 := hf.size
  clear hr hf hE ho C Q2
  go_wp2_with fail
  have HX := Lib.hid ((HR.out.al (S3.eO e (.slice A k c))).al (S3.eO e (.slice A k c)))
  have pHX := HX.out.ptr
  have FX := Lib.hid (((Fr.refl b w3).al (S3.eO e (.slice A k c))).al (S3.eO e (.slice A k c)))
  have FY := Lib.hid ((Fr.refl b w3).al (S3.eO e (.slice A k c)))
  have EX := er_one HO.out (n := w2.heap.size) (by have := FY.out.size; omega) (er_fr HE.out (by omega) FY.out)
  rw [show (w3.alloc (S3.eO e (.slice A k c))).heap.size = w3.heap.size + 1 from S3.sz1 _ _] at EX
  have EX := Lib.hid EX
  have QX := Lib.hid (Q3.out.fr (by omega) FX.out)
  have ho4 := Lib.hid (okE_op (k := 6) (s := s) (args := [e]) (by decide) (okI_small (Int.le_refl 0) (by decide)) hln)
  generalize (w3.alloc (S3.eO e (.slice A k c))).alloc (S3.eO e (.slice A k c)) = w4 at *
  clear Q3 HR HE FY
  refine (whole_no HX.out h1n ⟨6, 0, 0, s, [e]⟩ ho4.out _ 1 1 (er_in EX.out (Nat.le_refl _)) hx).mono ?_
  rintro E w5 ⟨rfl, hb⟩
  have HB := Lib.hid hb
  clear hb
  go_wp2_with fail
  exact ⟨rfl, rfl, ((F2.out.trans HF.out).trans FX.out).trans (Fr.of HB.out)⟩
end Go.Proofs.YtkpbplmmphpokaaGreatDoor.E5

