/-
  The cursor's other functions: Text, Sign, Keyword, Fail, Need, Pass, Name: contracts.
-/
import Derived.Test.YtkpbplmmphpokaaGreatDoorECur
namespace Go.Proofs.YtkpbplmmphpokaaGreatDoor.E5
open Go Go.RowKit Go.Proofs.YtkpbplmmphpokaaGreatDoor

/-- The next token's text, if it is of this kind. -/
def txAt (l : TL) (i : Nat) (k : Int) : Bytes := if (tkAt l i).1 = k then (tkAt l i).2 else []
set_option maxHeartbeats 1000000 in
theorem text_cu {w : World} {l : TL} {v : Value} {b i : Nat} (h : Cu w l v b i) (k : Int) :
    Calls Tryz.prog 157 #[cpt b, .int .i64 k] w fun e w' => e = .returned (.string (B (txAt l i k))) ∧ Below w.heap.size w w' := by
  have C := token_cu h 0 (by have := h.hi; have := h.len; omega)
  rw [Nat.add_zero] at C
  have C := Lib.hid C
  clear h
  unfold txAt
  by_cases hk : (tkAt l i).1 = k
  · rw [if_pos hk]
    have q : ((tkAt l i).1 == k) = true := by rw [hk]; exact beq_self_eq_true _
    generalize tkAt l i = t at *
    clear hk
    go_enter Tryz.func157, Tryz.ntmps157
    go_wp2_with fail
    refine C.out.mono ?_
    rintro e w1 ⟨⟨a, rfl⟩, hb⟩
    have HB := Lib.hid hb
    clear hb C
    go_wp2_with fail
    go_ret
    exact ⟨rfl, HB.out.alloc HB.out.size _⟩
  · rw [if_neg hk]
    have q : ((tkAt l i).1 == k) = false := beq_eq_false_iff_ne.2 hk
    generalize tkAt l i = t at *
    clear hk
    go_enter Tryz.func157, Tryz.ntmps157
    go_wp2_with fail
    refine C.out.mono ?_
    rintro e w1 ⟨⟨a, rfl⟩, hb⟩
    have HB := Lib.hid hb
    clear hb C
    go_wp2_with fail
    go_ret
    exact ⟨rfl, HB.out.alloc HB.out.size _⟩
theorem sign_cu {w : World} {l : TL} {v : Value} {b i : Nat} (h : Cu w l v b i) :
    Calls Tryz.prog 109 #[cpt b] w fun e w' => e = .returned (.string (B (sgAt l i))) ∧ Below w.heap.size w w' := by
  have C := Lib.hid (show Calls Tryz.prog 157 #[cpt b, .int .i64 4] w fun e w' => e = .returned (.string (B (sgAt l i))) ∧ Below w.heap.size w w' from text_cu h 4)
  clear h
  go_enter Tryz.func109, Tryz.ntmps109
  go_wp2_with fail
  refine C.out.mono ?_
  rintro e w1 ⟨rfl, hb⟩
  go_wp2_with fail
  go_ret
  exact ⟨rfl, hb⟩
theorem keyword_cu {w : World} {l : TL} {v : Value} {b i : Nat} (h : Cu w l v b i) :
    Calls Tryz.prog 124 #[cpt b] w fun e w' => e = .returned (.string (B (kwAt l i))) ∧ Below w.heap.size w w' := by
  have C := Lib.hid (show Calls Tryz.prog 157 #[cpt b, .int .i64 3] w fun e w' => e = .returned (.string (B (kwAt l i))) ∧ Below w.heap.size w w' from text_cu h 3)
  clear h
  go_enter Tryz.func124, Tryz.ntmps124
  go_wp2_with fail
  refine C.out.mono ?_
  rintro e w1 ⟨rfl, hb⟩
  go_wp2_with fail
  go_ret
  exact ⟨rfl, hb⟩
theorem failc (c : Nat) (j : Nat) (k : Int) (w : World) :
    Calls Tryz.prog 139 #[cpt c, .int .i64 (j : Int), .int .i64 k] w fun e w' => e = bad j k ∧ w = w' := by
  go_enter Tryz.func139, Tryz.ntmps139
  go_wp2_with fail
  exact ⟨rfl, rfl, rfl⟩
theorem needc_yes (b : Nat) (w : World) : Calls Tryz.prog 138 #[cpt b, .bool true] w fun e w' => e = .returned (.tuple #[]) ∧ w = w' := by
  go_enter Tryz.func138, Tryz.ntmps138
  go_wp2_with fail
  go_end0
  exact ⟨rfl, rfl⟩
theorem needc_no {w : World} {l : TL} {v : Value} {b i : Nat} (h : Cu w l v b i) : Calls Tryz.prog 138 #[cpt b, .bool false] w fun e w' => e = bad i 7 ∧ w = w' := by
  obtain ⟨c0, c1, f1⟩ := h.cells
  clear h
  go_enter Tryz.func138, Tryz.ntmps138
  go_wp2_with fail
  refine (failc b i 7 w).mono ?_
  rintro e w1 ⟨rfl, rfl⟩
  go_wp2_with fail
  exact ⟨rfl, rfl, rfl⟩
/-- A sign that has to be there, and is. -/
theorem pass_cu {w : World} {l : TL} {v : Value} {b i : Nat} (h : Cu w l v b i) {s : Bytes} (hs : sgAt l i = s) (hn : s ≠ []) :
    Calls Tryz.prog 108 #[cpt b, .string (B s)] w fun e w' => e = .returned (.tuple #[]) ∧ Cu w' l v b (i + 1) ∧ FrC b w w' := by
  have C := sign_cu h
  rw [hs] at C
  have C := Lib.hid C
  have hi := sgAt_lt hs hn
  have hle := h.len
  have H := Lib.hid h
  have q : (s == s) = true := beq_self_eq_true _
  clear h hs hn
  go_enter Tryz.func108, Tryz.ntmps108
  go_wp2_with fail
  refine C.out.mono ?_
  rintro e w1 ⟨rfl, hb⟩
  have HB := Lib.hid hb
  have H1 := Lib.hid (H.out.bel hb)
  clear hb C
  go_wp2_with fail
  refine (needc_yes b _).mono ?_
  rintro e w2 ⟨rfl, rfl⟩
  obtain ⟨c0, c1, f1⟩ := H1.out.cells
  go_wp2_with fail
  go_end0
  exact ⟨rfl, H1.out.inc1 hi, (FrC.of HB.out).set 1 _⟩
theorem passc_no {w : World} {l : TL} {v : Value} {b i : Nat} (h : Cu w l v b i) {s : Bytes} (hs : sgAt l i ≠ s) :
    Calls Tryz.prog 108 #[cpt b, .string (B s)] w fun e w' => e = bad i 7 ∧ FrC b w w' := by
  have C := Lib.hid (sign_cu h)
  have H := Lib.hid h
  have q : (sgAt l i == s) = false := beq_eq_false_iff_ne.2 hs
  clear h hs
  go_enter Tryz.func108, Tryz.ntmps108
  go_wp2_with fail
  refine C.out.mono ?_
  rintro e w1 ⟨rfl, hb⟩
  have HB := Lib.hid hb
  have H1 := Lib.hid (H.out.bel hb)
  clear hb C
  go_wp2_with fail
  refine (needc_no H1.out).mono ?_
  rintro e w2 ⟨rfl, rfl⟩
  go_wp2_with fail
  exact ⟨rfl, rfl, FrC.of HB.out⟩
/-- A name that has to be there. -/
theorem name_cu {w : World} {l : TL} {v : Value} {b i : Nat} (h : Cu w l v b i) (hk : nmTok (tkAt l i) = true) :
    Calls Tryz.prog 180 #[cpt b] w fun e w' => e = .returned (.string (B (tkAt l i).2)) ∧ Cu w' l v b (i + 1) ∧ FrC b w w' := by
  have hi := kind_lt (l := l) (i := i) (by unfold nmTok at hk; simp at hk; omega)
  unfold nmTok at hk
  simp only [Bool.and_eq_true, decide_eq_true_eq] at hk
  have T := text_cu h 1
  rw [show txAt l i 1 = (tkAt l i).2 from if_pos hk.1] at T
  have T := Lib.hid T
  have ht := h.text i
  have NM := fun W hW => S3.name_calls (tkAt l i).2 ht W hW
  rw [hk.2] at NM
  have NM := Lib.hid NM
  have H := Lib.hid h
  have hbw := h.lt
  generalize tkAt l i = t at *
  clear h hk ht
  go_enter Tryz.func180, Tryz.ntmps180
  go_wp2_with fail
  refine T.out.mono ?_
  rintro e w1 ⟨rfl, hb1⟩
  have HB0 := Lib.hid hb1
  have H1 := Lib.hid (H.out.bel hb1)
  clear hb1 T
  go_wp2_with fail
  refine (NM.out _ H1.out.g.s.kw).mono ?_
  rintro e w2 ⟨rfl, rfl⟩
  go_wp2_with fail
  refine (needc_yes b _).mono ?_
  rintro e w3 ⟨rfl, rfl⟩
  obtain ⟨c0, c1, f1⟩ := H1.out.cells
  have hb1 := H1.out.lt
  have hle := H1.out.len
  clear NM
  go_wp2_with fail
  go_ret
  exact ⟨rfl, H1.out.inc1 hi, (FrC.of HB0.out).set 1 _⟩
theorem namec_no {w : World} {l : TL} {v : Value} {b i : Nat} (h : Cu w l v b i) (hk : nmTok (tkAt l i) = false) :
    Calls Tryz.prog 180 #[cpt b] w fun e w' => e = bad i 7 ∧ FrC b w w' := by
  have hx : S3.nameB (txAt l i 1) = false := by
    unfold txAt
    unfold nmTok at hk
    by_cases h1 : (tkAt l i).1 = 1
    · rw [if_pos h1]; simpa [h1] using hk
    · rw [if_neg h1]; rfl
  have T := Lib.hid (text_cu h 1)
  have ht : (txAt l i 1).length ≤ 9223372036854775807 := by
    unfold txAt; split
    · exact h.text i
    · simp
  have NM := fun W hW => S3.name_calls (txAt l i 1) ht W hW
  rw [hx] at NM
  have NM := Lib.hid NM
  have H := Lib.hid h
  generalize txAt l i 1 = t at *
  clear h hk ht hx
  go_enter Tryz.func180, Tryz.ntmps180
  go_wp2_with fail
  refine T.out.mono ?_
  rintro e w1 ⟨rfl, hb1⟩
  have HB1 := Lib.hid hb1
  have H1 := Lib.hid (H.out.bel hb1)
  clear hb1 T
  go_wp2_with fail
  refine (NM.out _ H1.out.g.s.kw).mono ?_
  rintro e w2 ⟨rfl, rfl⟩
  go_wp2_with fail
  refine (needc_no H1.out).mono ?_
  rintro e w3 ⟨rfl, rfl⟩
  go_wp2_with fail
  exact ⟨rfl, rfl, FrC.of HB1.out⟩
end Go.Proofs.YtkpbplmmphpokaaGreatDoor.E5
