/-
  The cursor in memory: its tokens, what stays; its functions: contracts.
  The cursor's other functions: Text, Sign, Keyword, Fail, Need, Pass, Name: contracts.
-/
import Derived.Test.YtipepljmfgjbpaaGreatDoorEOp
import Derived.Test.YtipepljmfgjbpaaGreatDoorEMath
import Derived.Test.YtipepljmfgjbpaaGreatDoorSDepth
import Derived.Test.YtipepljmfgjbpaaGreatDoorNParse
import Derived.WalkLawsBesides
namespace Go.Proofs.YtipepljmfgjbpaaGreatDoor.E5
open Go Go.RowKit Go.Proofs.YtipepljmfgjbpaaGreatDoor

/-- A slice value that reads as these tokens, below block M. -/
def TokL (W : World) (M : Nat) (v : Value) (l : TL) : Prop :=
  ∃ A c, v = .slice A l.length c ∧ l.length ≤ 9223372036854775807 ∧ ∀ i t, l[i]? = some t → t.2.length ≤ 9223372036854775807 ∧ ∃ b o a, A = some ⟨b, o, none⟩ ∧ b < M ∧ W.cell? ⟨b, o + i * 3, none⟩ = some (.int .i64 t.1) ∧ W.cell? ⟨b, o + i * 3 + 1, none⟩ = some (.string (B t.2)) ∧ W.cell? ⟨b, o + i * 3 + 2, none⟩ = some (.int .i64 a)
theorem TokL.keep {W W' : World} {M M' : Nat} {v : Value} {l : TL} (h : TokL W M v l) (hM : M ≤ M') (hk : ∀ b i, b < M → W'.cell? ⟨b, i, none⟩ = W.cell? ⟨b, i, none⟩) : TokL W' M' v l := by
  obtain ⟨A, c, h1, h2, h3⟩ := h
  refine ⟨A, c, h1, h2, fun i t ht => ?_⟩
  obtain ⟨e0, b, o, a, e1, e2, e3, e4, e5⟩ := h3 i t ht
  exact ⟨e0, b, o, a, e1, by omega, (hk _ _ e2).trans e3, (hk _ _ e2).trans e4, (hk _ _ e2).trans e5⟩
theorem TokL.bel {W W' : World} {M : Nat} {v : Value} {l : TL} (h : TokL W M v l) (hb : Below M W W') : TokL W' M v l := h.keep (Nat.le_refl _) fun _ _ hl => hb.cell hl
/-- All the variables. -/
structure GlobE (w : World) : Prop where
  s : S3.Glob w
  n : N2.Glob w
  o : GlobO w
theorem GlobE.bel {w w' : World} {M : Nat} (h : GlobE w) (hM : 6 < M) (hb : Below M w w') : GlobE w' := by
  obtain ⟨h1, ⟨h2, h3⟩, h4⟩ := h
  exact ⟨h1.bel hM hb, ⟨var?_below hb N2.gTab (by show 4 < M; omega) h2, Nat.lt_of_lt_of_le h3 hb.size⟩, h4.bel hM hb⟩
theorem GlobE.up {w w' : World} (h : GlobE w) (hb : Below w.heap.size w w') : GlobE w' := h.bel h.s.lt hb

/-- All but block b is as it was. -/
structure FrC (b : Nat) (w w' : World) : Prop where
  os : w'.os = w.os
  tape : w'.tape = w.tape
  output : w'.output = w.output
  size : w.heap.size ≤ w'.heap.size
  block : ∀ k, k < w.heap.size → k ≠ b → w'.heap[k]? = w.heap[k]?
theorem FrC.refl (b : Nat) (w : World) : FrC b w w := ⟨rfl, rfl, rfl, Nat.le_refl _, fun _ _ _ => rfl⟩
theorem FrC.trans {b : Nat} {u v w : World} (h : FrC b u v) (k : FrC b v w) : FrC b u w :=
  ⟨k.os.trans h.os, k.tape.trans h.tape, k.output.trans h.output, Nat.le_trans h.size k.size, fun i hi hb => (k.block i (Nat.lt_of_lt_of_le hi h.size) hb).trans (h.block i hi hb)⟩
theorem FrC.of {b : Nat} {w w' : World} (h : Below w.heap.size w w') : FrC b w w' := ⟨h.os, h.tape, h.output, h.size, fun k hk _ => h.block k hk⟩
theorem FrC.set {b : Nat} {w w' : World} (h : FrC b w w') (o : Nat) (u : Value) : FrC b w (w'.setCell ⟨b, o, none⟩ u) :=
  ⟨h.os, h.tape, h.output, by simpa [World.setCell] using h.size, fun k hk hb => (Below.heap_setCell w' ⟨b, o, none⟩ u k hb).trans (h.block k hk hb)⟩
theorem FrC.al {b : Nat} {w w' : World} (h : FrC b w w') (o : Obj) : FrC b w (w'.alloc o) := h.trans (.of ((Below.refl _ w').alloc (Nat.le_refl _) o))

/-- The cursor in block c: its tokens, where it stands. -/
structure Cu (w : World) (l : TL) (v : Value) (c i : Nat) : Prop where
  row : w.heap[c]? = some (.cells #[v, .int .i64 (i : Int)] 82 (0, 0))
  tok : TokL w c v l
  g : GlobE w
  big : 6 < c
  hi : i ≤ l.length
theorem Cu.lt {w : World} {l : TL} {v : Value} {c i : Nat} (h : Cu w l v c i) : c < w.heap.size := by
  rcases Nat.lt_or_ge c w.heap.size with h1 | h1
  · exact h1
  · have := h.row; rw [Array.getElem?_eq_none h1] at this; cases this
theorem Cu.belM {w w' : World} {l : TL} {v : Value} {c i M : Nat} (h : Cu w l v c i) (hM : c < M) (hb : Below M w w') : Cu w' l v c i :=
  ⟨(hb.block c hM).trans h.row, h.tok.bel (hb.mono (Nat.le_of_lt hM)), h.g.bel (by have := h.big; omega) hb, h.big, h.hi⟩
theorem Cu.bel {w w' : World} {l : TL} {v : Value} {c i : Nat} (h : Cu w l v c i) (hb : Below w.heap.size w w') : Cu w' l v c i := h.belM h.lt hb
theorem Cu.al {w : World} {l : TL} {v : Value} {c i : Nat} (h : Cu w l v c i) (o : Obj) : Cu (w.alloc o) l v c i := h.bel ((Below.refl _ w).alloc (Nat.le_refl _) o)
theorem Cu.len {w : World} {l : TL} {v : Value} {c i : Nat} (h : Cu w l v c i) : l.length ≤ 9223372036854775807 := by obtain ⟨_, _, _, h2, _⟩ := h.tok; exact h2
theorem Cu.other {w : World} {l : TL} {v : Value} {c i : Nat} (h : Cu w l v c i) {p : Addr} (hp : c < p.block) (u : Value) : Cu (w.setCell p u) l v c i :=
  h.belM (M := c + 1) (by omega) ((Below.refl _ w).setCell (by omega) u)
theorem Cu.set1 {w : World} {l : TL} {v : Value} {c i : Nat} (h : Cu w l v c i) (j : Nat) (hj : j ≤ l.length) : Cu (w.setCell ⟨c, 1, none⟩ (.int .i64 (j : Int))) l v c j := by
  have hb : Below c w (w.setCell ⟨c, 1, none⟩ (.int .i64 (j : Int))) := (Below.refl c w).setCell (p := ⟨c, _, none⟩) (Nat.le_refl c) _
  refine ⟨?_, h.tok.bel hb, h.g.bel h.big hb, h.big, hj⟩
  simp only [World.setCell, Array.getElem?_modify, if_true, h.row]
  rfl
theorem Cu.inc1 {w : World} {l : TL} {v : Value} {c i : Nat} (h : Cu w l v c i) (hj : i < l.length) : Cu (w.setCell ⟨c, 1, none⟩ (.int .i64 ((i : Int) + 1))) l v c (i + 1) := by
  have := h.set1 (i + 1) hj
  rwa [show ((i + 1 : Nat) : Int) = (i : Int) + 1 from rfl] at this
theorem Cu.cells {w : World} {l : TL} {v : Value} {c i : Nat} (h : Cu w l v c i) : w.cell? ⟨c, 0, none⟩ = some v ∧ w.cell? ⟨c, 1, none⟩ = some (.int .i64 (i : Int)) ∧ w.frozen? ⟨c, 1, none⟩ = false := by
  refine ⟨(cell_of_row _ _ 0 _ _ _ h.row).trans rfl, (cell_of_row _ _ 1 _ _ _ h.row).trans rfl, ?_⟩
  unfold World.frozen?; rw [h.row]; rfl
theorem Cu.text {w : World} {l : TL} {v : Value} {c i : Nat} (h : Cu w l v c i) (j : Nat) : (tkAt l j).2.length ≤ 9223372036854775807 := by
  obtain ⟨_, _, _, _, ht⟩ := h.tok
  unfold tkAt
  cases hj : l[j]? with
  | none => simp
  | some t => exact (ht j t hj).1

abbrev cpt (c : Nat) : Value := .pointer (some ⟨c, 0, none⟩)
/-- What a panic with a mistake is. -/
abbrev bad (i : Nat) (c : Int) : Ending := .panicked [{ v := .iface 90 (.agg #[.int .i64 (i : Int), .int .i64 c]), recovered := false }]
theorem run_tk (k : Int) (s : ByteArray) (a : Int) (W : World) : (Instr.field 33 (.agg #[.int .i64 k, .string s, .int .i64 a]) 0).run Tryz.prog W = .ok (.int .i64 k) W := by kernel_rfl
theorem run_tx (k : Int) (s : ByteArray) (a : Int) (W : World) : (Instr.field 33 (.agg #[.int .i64 k, .string s, .int .i64 a]) 1).run Tryz.prog W = .ok (.string s) W := by kernel_rfl

set_option maxHeartbeats 1000000 in
theorem token_cu {w : World} {l : TL} {v : Value} {b i : Nat} (h : Cu w l v b i) (n : Nat) (hin : i + n ≤ 9223372036854775807) :
    Calls Tryz.prog 56 #[cpt b, .int .i64 (n : Int)] w fun e w' => (∃ a : Int, e = .returned (.agg #[.int .i64 (tkAt l (i + n)).1, .string (B (tkAt l (i + n)).2), .int .i64 a])) ∧ Below w.heap.size w w' := by
  obtain ⟨c0, c1, f1⟩ := h.cells
  obtain ⟨A, c, rfl, hl, ht⟩ := h.tok
  have hi := h.hi
  have hbw := h.lt
  have HT := Lib.hid ht
  have hs : IntKind.i64.wrap ((i : Int) + (n : Int)) = (i : Int) + (n : Int) := IntWalk.i64_in _ (by omega)
  clear h ht
  rcases Nat.lt_or_ge (i + n) l.length with hlt | hge
  · obtain ⟨t, hit⟩ : ∃ t, l[i + n]? = some t := ⟨_, List.getElem?_eq_getElem hlt⟩
    have htk : tkAt l (i + n) = t := by unfold tkAt; rw [hit]; rfl
    rw [htk]
    obtain ⟨_, tb, o, a, rfl, hbl, e0, e1, e2⟩ := HT.out (i + n) t hit
    have htw : tb < w.heap.size := by omega
    have q : ¬ (l.length : Int) ≤ (i : Int) + (n : Int) := by omega
    clear hit htk HT
    go_enter Tryz.func56, Tryz.ntmps56
    go_wp2_with fail
    go_region
    go_wp2_with fail
    go_region
    go_wp2_with fail
    exact bodyPost_ret (v := .agg #[.int .i64 t.1, .string (B t.2), .int .i64 a]) (by simp [results, Tryz.results56, go_sem]) rfl ⟨⟨_, rfl⟩, ((S3.bal w _).drew).drew⟩
  · have htk : tkAt l (i + n) = (0, []) := by unfold tkAt; rw [List.getElem?_eq_none hge]; rfl
    rw [htk]
    have q : (l.length : Int) ≤ (i : Int) + (n : Int) := by omega
    go_enter Tryz.func56, Tryz.ntmps56
    go_wp2_with fail
    go_region
    go_wp2_with fail
    exact bodyPost_ret (v := .agg #[.int .i64 0, .string (B []), .int .i64 0]) (by simp [results, Tryz.results56, go_sem]) rfl ⟨⟨_, rfl⟩, (S3.bal w _).drew⟩
end Go.Proofs.YtipepljmfgjbpaaGreatDoor.E5

namespace Go.Proofs.YtipepljmfgjbpaaGreatDoor.E5
open Go Go.RowKit Go.Proofs.YtipepljmfgjbpaaGreatDoor

/-- The next token's text, if it is of this kind. -/
def txAt (l : TL) (i : Nat) (k : Int) : Bytes := if (tkAt l i).1 = k then (tkAt l i).2 else []
set_option maxHeartbeats 1000000 in
theorem text_cu {w : World} {l : TL} {v : Value} {b i : Nat} (h : Cu w l v b i) (k : Int) :
    Calls Tryz.prog 43 #[cpt b, .int .i64 k] w fun e w' => e = .returned (.string (B (txAt l i k))) ∧ Below w.heap.size w w' := by
  have C := token_cu h 0 (by have := h.hi; have := h.len; omega)
  rw [Nat.add_zero] at C
  have C := Lib.hid C
  clear h
  unfold txAt
  by_cases hk : (tkAt l i).1 = k
  · rw [if_pos hk]
    have q : ((tkAt l i).1 == k) = true := by rw [hk]; exact beq_self_eq_true _
    generalize tkAt l i = t at *
    clear hk
    go_enter Tryz.func43, Tryz.ntmps43
    go_wp2_with fail
    refine C.out.mono ?_
    rintro e w1 ⟨⟨a, rfl⟩, hb⟩
    have HB := Lib.hid hb
    clear hb C
    go_wp2_with fail
    go_ret
    exact ⟨rfl, HB.out.alloc HB.out.size _⟩
  · rw [if_neg hk]
    have q : ((tkAt l i).1 == k) = false := beq_eq_false_iff_ne.2 hk
    generalize tkAt l i = t at *
    clear hk
    go_enter Tryz.func43, Tryz.ntmps43
    go_wp2_with fail
    refine C.out.mono ?_
    rintro e w1 ⟨⟨a, rfl⟩, hb⟩
    have HB := Lib.hid hb
    clear hb C
    go_wp2_with fail
    go_ret
    exact ⟨rfl, HB.out.alloc HB.out.size _⟩
theorem sign_cu {w : World} {l : TL} {v : Value} {b i : Nat} (h : Cu w l v b i) :
    Calls Tryz.prog 40 #[cpt b] w fun e w' => e = .returned (.string (B (sgAt l i))) ∧ Below w.heap.size w w' := by
  have C := Lib.hid (show Calls Tryz.prog 43 #[cpt b, .int .i64 4] w fun e w' => e = .returned (.string (B (sgAt l i))) ∧ Below w.heap.size w w' from text_cu h 4)
  clear h
  go_enter Tryz.func40, Tryz.ntmps40
  go_wp2_with fail
  refine C.out.mono ?_
  rintro e w1 ⟨rfl, hb⟩
  go_wp2_with fail
  go_ret
  exact ⟨rfl, hb⟩
theorem keyword_cu {w : World} {l : TL} {v : Value} {b i : Nat} (h : Cu w l v b i) :
    Calls Tryz.prog 32 #[cpt b] w fun e w' => e = .returned (.string (B (kwAt l i))) ∧ Below w.heap.size w w' := by
  have C := Lib.hid (show Calls Tryz.prog 43 #[cpt b, .int .i64 3] w fun e w' => e = .returned (.string (B (kwAt l i))) ∧ Below w.heap.size w w' from text_cu h 3)
  clear h
  go_enter Tryz.func32, Tryz.ntmps32
  go_wp2_with fail
  refine C.out.mono ?_
  rintro e w1 ⟨rfl, hb⟩
  go_wp2_with fail
  go_ret
  exact ⟨rfl, hb⟩
theorem failc (c : Nat) (j : Nat) (k : Int) (w : World) :
    Calls Tryz.prog 41 #[cpt c, .int .i64 (j : Int), .int .i64 k] w fun e w' => e = bad j k ∧ w = w' := by
  go_enter Tryz.func41, Tryz.ntmps41
  go_wp2_with fail
  exact ⟨rfl, rfl, rfl⟩
theorem needc_yes (b : Nat) (w : World) : Calls Tryz.prog 39 #[cpt b, .bool true] w fun e w' => e = .returned (.tuple #[]) ∧ w = w' := by
  go_enter Tryz.func39, Tryz.ntmps39
  go_wp2_with fail
  go_end0
  exact ⟨rfl, rfl⟩
theorem needc_no {w : World} {l : TL} {v : Value} {b i : Nat} (h : Cu w l v b i) : Calls Tryz.prog 39 #[cpt b, .bool false] w fun e w' => e = bad i 7 ∧ w = w' := by
  obtain ⟨c0, c1, f1⟩ := h.cells
  clear h
  go_enter Tryz.func39, Tryz.ntmps39
  go_wp2_with fail
  refine (failc b i 7 w).mono ?_
  rintro e w1 ⟨rfl, rfl⟩
  go_wp2_with fail
  exact ⟨rfl, rfl, rfl⟩
/-- A sign that has to be there, and is. -/
theorem pass_cu {w : World} {l : TL} {v : Value} {b i : Nat} (h : Cu w l v b i) {s : Bytes} (hs : sgAt l i = s) (hn : s ≠ []) :
    Calls Tryz.prog 63 #[cpt b, .string (B s)] w fun e w' => e = .returned (.tuple #[]) ∧ Cu w' l v b (i + 1) ∧ FrC b w w' := by
  have C := sign_cu h
  rw [hs] at C
  have C := Lib.hid C
  have hi := sgAt_lt hs hn
  have hle := h.len
  have H := Lib.hid h
  have q : (s == s) = true := beq_self_eq_true _
  clear h hs hn
  go_enter Tryz.func63, Tryz.ntmps63
  go_wp2_with fail
  refine C.out.mono ?_
  rintro e w1 ⟨rfl, hb⟩
  have HB := Lib.hid hb
  have H1 := Lib.hid (H.out.bel hb)
  clear hb C
  go_wp2_with fail
  refine (needc_yes b _).mono ?_
  rintro e w2 ⟨rfl, rfl⟩
  obtain ⟨c0, c1, f1⟩ := H1.out.cells
  go_wp2_with fail
  go_end0
  exact ⟨rfl, H1.out.inc1 hi, (FrC.of HB.out).set 1 _⟩
theorem passc_no {w : World} {l : TL} {v : Value} {b i : Nat} (h : Cu w l v b i) {s : Bytes} (hs : sgAt l i ≠ s) :
    Calls Tryz.prog 63 #[cpt b, .string (B s)] w fun e w' => e = bad i 7 ∧ FrC b w w' := by
  have C := Lib.hid (sign_cu h)
  have H := Lib.hid h
  have q : (sgAt l i == s) = false := beq_eq_false_iff_ne.2 hs
  clear h hs
  go_enter Tryz.func63, Tryz.ntmps63
  go_wp2_with fail
  refine C.out.mono ?_
  rintro e w1 ⟨rfl, hb⟩
  have HB := Lib.hid hb
  have H1 := Lib.hid (H.out.bel hb)
  clear hb C
  go_wp2_with fail
  refine (needc_no H1.out).mono ?_
  rintro e w2 ⟨rfl, rfl⟩
  go_wp2_with fail
  exact ⟨rfl, rfl, FrC.of HB.out⟩
/-- A name that has to be there. -/
theorem name_cu {w : World} {l : TL} {v : Value} {b i : Nat} (h : Cu w l v b i) (hk : nmTok (tkAt l i) = true) :
    Calls Tryz.prog 50 #[cpt b] w fun e w' => e = .returned (.string (B (tkAt l i).2)) ∧ Cu w' l v b (i + 1) ∧ FrC b w w' := by
  have hi := kind_lt (l := l) (i := i) (by unfold nmTok at hk; simp at hk; omega)
  unfold nmTok at hk
  simp only [Bool.and_eq_true, decide_eq_true_eq] at hk
  have T := text_cu h 1
  rw [show txAt l i 1 = (tkAt l i).2 from if_pos hk.1] at T
  have T := Lib.hid T
  have ht := h.text i
  have NM := fun W hW => S3.name_calls (tkAt l i).2 ht W hW
  rw [hk.2] at NM
  have NM := Lib.hid NM
  have H := Lib.hid h
  have hbw := h.lt
  generalize tkAt l i = t at *
  clear h hk ht
  go_enter Tryz.func50, Tryz.ntmps50
  go_wp2_with fail
  refine T.out.mono ?_
  rintro e w1 ⟨rfl, hb1⟩
  have HB0 := Lib.hid hb1
  have H1 := Lib.hid (H.out.bel hb1)
  clear hb1 T
  go_wp2_with fail
  refine (NM.out _ H1.out.g.s.kw).mono ?_
  rintro e w2 ⟨rfl, rfl⟩
  go_wp2_with fail
  refine (needc_yes b _).mono ?_
  rintro e w3 ⟨rfl, rfl⟩
  obtain ⟨c0, c1, f1⟩ := H1.out.cells
  have hb1 := H1.out.lt
  have hle := H1.out.len
  clear NM
  go_wp2_with fail
  go_ret
  exact ⟨rfl, H1.out.inc1 hi, (FrC.of HB0.out).set 1 _⟩
theorem namec_no {w : World} {l : TL} {v : Value} {b i : Nat} (h : Cu w l v b i) (hk : nmTok (tkAt l i) = false) :
    Calls Tryz.prog 50 #[cpt b] w fun e w' => e = bad i 7 ∧ FrC b w w' := by
  have hx : S3.nameB (txAt l i 1) = false := by
    unfold txAt
    unfold nmTok at hk
    by_cases h1 : (tkAt l i).1 = 1
    · rw [if_pos h1]; simpa [h1] using hk
    · rw [if_neg h1]; rfl
  have T := Lib.hid (text_cu h 1)
  have ht : (txAt l i 1).length ≤ 9223372036854775807 := by
    unfold txAt; split
    · exact h.text i
    · simp
  have NM := fun W hW => S3.name_calls (txAt l i 1) ht W hW
  rw [hx] at NM
  have NM := Lib.hid NM
  have H := Lib.hid h
  generalize txAt l i 1 = t at *
  clear h hk ht hx
  go_enter Tryz.func50, Tryz.ntmps50
  go_wp2_with fail
  refine T.out.mono ?_
  rintro e w1 ⟨rfl, hb1⟩
  have HB1 := Lib.hid hb1
  have H1 := Lib.hid (H.out.bel hb1)
  clear hb1 T
  go_wp2_with fail
  refine (NM.out _ H1.out.g.s.kw).mono ?_
  rintro e w2 ⟨rfl, rfl⟩
  go_wp2_with fail
  refine (needc_no H1.out).mono ?_
  rintro e w3 ⟨rfl, rfl⟩
  go_wp2_with fail
  exact ⟨rfl, rfl, FrC.of HB1.out⟩
end Go.Proofs.YtipepljmfgjbpaaGreatDoor.E5
