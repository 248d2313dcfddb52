/-
  The reader in memory: its tokens, what stays; its small functions: contracts.
-/
import Derived.Test.YtiboolnampnhfaaGreatDoorEOp
import Derived.Test.YtiboolnampnhfaaGreatDoorEPlain
import Derived.Test.YtiboolnampnhfaaGreatDoorSDepth
import Derived.Test.YtiboolnampnhfaaGreatDoorNParse
import Derived.WalkLawsBesides
namespace Go.Proofs.YtiboolnampnhfaaGreatDoor.E5
open Go Go.RowKit Go.Proofs.YtiboolnampnhfaaGreatDoor

/-- A slice value that reads as these tokens, below block M. -/
def TokL (W : World) (M : Nat) (v : Value) (l : TL) : Prop :=
  ∃ A c, v = .slice A l.length c ∧ l.length ≤ 9223372036854775807 ∧ ∀ i t, l[i]? = some t → t.2.length ≤ 9223372036854775807 ∧ ∃ b o a, A = some ⟨b, o, none⟩ ∧ b < M ∧ W.cell? ⟨b, o + i * 3, none⟩ = some (.int .i64 t.1) ∧ W.cell? ⟨b, o + i * 3 + 1, none⟩ = some (.string (B t.2)) ∧ W.cell? ⟨b, o + i * 3 + 2, none⟩ = some (.int .i64 a)
theorem TokL.keep {W W' : World} {M M' : Nat} {v : Value} {l : TL} (h : TokL W M v l) (hM : M ≤ M') (hk : ∀ b i, b < M → W'.cell? ⟨b, i, none⟩ = W.cell? ⟨b, i, none⟩) : TokL W' M' v l := by
  obtain ⟨A, c, h1, h2, h3⟩ := h
  refine ⟨A, c, h1, h2, fun i t ht => ?_⟩
  obtain ⟨e0, b, o, a, e1, e2, e3, e4, e5⟩ := h3 i t ht
  exact ⟨e0, b, o, a, e1, by omega, (hk _ _ e2).trans e3, (hk _ _ e2).trans e4, (hk _ _ e2).trans e5⟩
theorem TokL.bel {W W' : World} {M : Nat} {v : Value} {l : TL} (h : TokL W M v l) (hb : Below M W W') : TokL W' M v l := h.keep (Nat.le_refl _) fun _ _ hl => hb.cell hl
/-- All the variables. -/
structure GlobE (w : World) : Prop where
  s : S3.Glob w
  n : N2.Glob w
  o : GlobO w
theorem GlobE.bel {w w' : World} {M : Nat} (h : GlobE w) (hM : 12 < M) (hb : Below M w w') : GlobE w' := by
  obtain ⟨h1, ⟨h2, h3⟩, h4⟩ := h
  exact ⟨h1.bel hM hb, ⟨var?_below hb N2.gTab (by show 5 < M; omega) h2, Nat.lt_of_lt_of_le h3 hb.size⟩, h4.bel hM hb⟩
theorem GlobE.up {w w' : World} (h : GlobE w) (hb : Below w.heap.size w w') : GlobE w' := h.bel h.s.lt hb

/-- All but block b is as it was. -/
structure Fr (b : Nat) (w w' : World) : Prop where
  os : w'.os = w.os
  tape : w'.tape = w.tape
  output : w'.output = w.output
  size : w.heap.size ≤ w'.heap.size
  block : ∀ k, k < w.heap.size → k ≠ b → w'.heap[k]? = w.heap[k]?
theorem Fr.refl (b : Nat) (w : World) : Fr b w w := ⟨rfl, rfl, rfl, Nat.le_refl _, fun _ _ _ => rfl⟩
theorem Fr.trans {b : Nat} {u v w : World} (h : Fr b u v) (k : Fr b v w) : Fr b u w :=
  ⟨k.os.trans h.os, k.tape.trans h.tape, k.output.trans h.output, Nat.le_trans h.size k.size, fun i hi hb => (k.block i (Nat.lt_of_lt_of_le hi h.size) hb).trans (h.block i hi hb)⟩
theorem Fr.of {b : Nat} {w w' : World} (h : Below w.heap.size w w') : Fr b w w' := ⟨h.os, h.tape, h.output, h.size, fun k hk _ => h.block k hk⟩
theorem Fr.set {b : Nat} {w w' : World} (h : Fr b w w') (o : Nat) (u : Value) : Fr b w (w'.setCell ⟨b, o, none⟩ u) :=
  ⟨h.os, h.tape, h.output, by simpa [World.setCell] using h.size, fun k hk hb => (Below.heap_setCell w' ⟨b, o, none⟩ u k hb).trans (h.block k hk hb)⟩
/-- A store into a block that is new. -/
theorem Fr.setNew {b : Nat} {w w' : World} (h : Fr b w w') {p : Addr} (hp : w.heap.size ≤ p.block) (u : Value) : Fr b w (w'.setCell p u) :=
  ⟨h.os, h.tape, h.output, by simpa [World.setCell] using h.size, fun k hk hb => (Below.heap_setCell w' p u k (by omega)).trans (h.block k hk hb)⟩
theorem Fr.bel {b : Nat} {w w' : World} (h : Fr b w w') (hb : b ≤ w.heap.size) : Below b w w' := ⟨h.os, h.tape, h.output, h.size, fun k hk => h.block k (by omega) (by omega)⟩
theorem Fr.cell {b : Nat} {w w' : World} (h : Fr b w w') {k i : Nat} (hk : k < w.heap.size) (hb : k ≠ b) : w'.cell? ⟨k, i, none⟩ = w.cell? ⟨k, i, none⟩ := World.cell?_of_block (w := w) (h.block k hk hb)

/-- The reader in block b: its tokens, where it stands, its nesting. -/
structure Rd (w : World) (l : TL) (v : Value) (b i d : Nat) : Prop where
  row : w.heap[b]? = some (.cells #[v, .int .i64 (i : Int), .int .i64 (d : Int)] 118 (0, 0))
  tok : TokL w b v l
  g : GlobE w
  big : 12 < b
  hi : i ≤ l.length
  hd : d ≤ 9223372036854775807
theorem Rd.lt {w : World} {l : TL} {v : Value} {b i d : Nat} (h : Rd w l v b i d) : b < w.heap.size := by
  rcases Nat.lt_or_ge b w.heap.size with h1 | h1
  · exact h1
  · have := h.row; rw [Array.getElem?_eq_none h1] at this; cases this
theorem Rd.bel {w w' : World} {l : TL} {v : Value} {b i d : Nat} (h : Rd w l v b i d) (hb : Below w.heap.size w w') : Rd w' l v b i d :=
  ⟨(hb.block b h.lt).trans h.row, h.tok.bel (hb.mono (Nat.le_of_lt h.lt)), h.g.up hb, h.big, h.hi, h.hd⟩
theorem Rd.al {w : World} {l : TL} {v : Value} {b i d : Nat} (h : Rd w l v b i d) (o : Obj) : Rd (w.alloc o) l v b i d := h.bel ((Below.refl _ w).alloc (Nat.le_refl _) o)
theorem Rd.len {w : World} {l : TL} {v : Value} {b i d : Nat} (h : Rd w l v b i d) : l.length ≤ 9223372036854775807 := by obtain ⟨_, _, _, h2, _⟩ := h.tok; exact h2
/-- A store into another block that is no token's and no variable's. -/
theorem Rd.other {w : World} {l : TL} {v : Value} {b i d : Nat} (h : Rd w l v b i d) {p : Addr} (hp : b < p.block) (u : Value) : Rd (w.setCell p u) l v b i d := by
  have hb : Below (b + 1) w (w.setCell p u) := (Below.refl _ w).setCell (by omega) u
  exact ⟨(hb.block b (by omega)).trans h.row, h.tok.bel (hb.mono (by omega)), h.g.bel (M := b) h.big (hb.mono (by omega)), h.big, h.hi, h.hd⟩
theorem Rd.set1 {w : World} {l : TL} {v : Value} {b i d : Nat} (h : Rd w l v b i d) (j : Nat) (hj : j ≤ l.length) : Rd (w.setCell ⟨b, 1, none⟩ (.int .i64 (j : Int))) l v b j d := by
  have hb : Below b w (w.setCell ⟨b, 1, none⟩ (.int .i64 (j : Int))) := (Below.refl b w).setCell (p := ⟨b, _, none⟩) (Nat.le_refl b) _
  refine ⟨?_, h.tok.bel hb, h.g.bel h.big hb, h.big, hj, h.hd⟩
  simp only [World.setCell, Array.getElem?_modify, if_true, h.row]
  rfl
theorem Rd.set2 {w : World} {l : TL} {v : Value} {b i d : Nat} (h : Rd w l v b i d) (j : Nat) (hj : j ≤ 9223372036854775807) : Rd (w.setCell ⟨b, 2, none⟩ (.int .i64 (j : Int))) l v b i j := by
  have hb : Below b w (w.setCell ⟨b, 2, none⟩ (.int .i64 (j : Int))) := (Below.refl b w).setCell (p := ⟨b, _, none⟩) (Nat.le_refl b) _
  refine ⟨?_, h.tok.bel hb, h.g.bel h.big hb, h.big, h.hi, hj⟩
  simp only [World.setCell, Array.getElem?_modify, if_true, h.row]
  rfl
theorem Rd.cells {w : World} {l : TL} {v : Value} {b i d : Nat} (h : Rd w l v b i d) : w.cell? ⟨b, 0, none⟩ = some v ∧ w.cell? ⟨b, 1, none⟩ = some (.int .i64 (i : Int)) ∧ w.cell? ⟨b, 2, none⟩ = some (.int .i64 (d : Int)) ∧ w.frozen? ⟨b, 1, none⟩ = false ∧ w.frozen? ⟨b, 2, none⟩ = false := by
  refine ⟨(cell_of_row _ _ 0 _ _ _ h.row).trans rfl, (cell_of_row _ _ 1 _ _ _ h.row).trans rfl, (cell_of_row _ _ 2 _ _ _ h.row).trans rfl, ?_, ?_⟩ <;> unfold World.frozen? <;> rw [h.row] <;> rfl

theorem Rd.inc1 {w : World} {l : TL} {v : Value} {b i d : Nat} (h : Rd w l v b i d) (hj : i < l.length) : Rd (w.setCell ⟨b, 1, none⟩ (.int .i64 ((i : Int) + 1))) l v b (i + 1) d := by
  have := h.set1 (i + 1) hj
  rwa [show ((i + 1 : Nat) : Int) = (i : Int) + 1 from rfl] at this
theorem Rd.inc2 {w : World} {l : TL} {v : Value} {b i d : Nat} (h : Rd w l v b i d) (hj : d < 9223372036854775807) : Rd (w.setCell ⟨b, 2, none⟩ (.int .i64 ((d : Int) + 1))) l v b i (d + 1) := by
  have := h.set2 (d + 1) hj
  rwa [show ((d + 1 : Nat) : Int) = (d : Int) + 1 from rfl] at this
theorem Rd.text {w : World} {l : TL} {v : Value} {b i d : Nat} (h : Rd w l v b i d) (j : Nat) : (tkAt l j).2.length ≤ 9223372036854775807 := by
  obtain ⟨_, _, _, _, ht⟩ := h.tok
  unfold tkAt
  cases hj : l[j]? with
  | none => simp
  | some t => exact (ht j t hj).1
theorem Fr.al {b : Nat} {w w' : World} (h : Fr b w w') (o : Obj) : Fr b w (w'.alloc o) := h.trans (.of ((Below.refl _ w').alloc (Nat.le_refl _) o))

abbrev rp (b : Nat) : Value := .pointer (some ⟨b, 0, none⟩)
/-- What a panic with a mistake is. -/
abbrev bad (i : Nat) (c : Int) : Ending := .panicked [{ v := .iface 115 (.agg #[.int .i64 (i : Int), .int .i64 c]), recovered := false }]

set_option maxHeartbeats 1000000 in
theorem token_calls {w : World} {l : TL} {v : Value} {b i d : Nat} (h : Rd w l v b i d) :
    Calls Tryz.prog 94 #[rp b] w fun e w' => (∃ a : Int, e = .returned (.agg #[.int .i64 (tkAt l i).1, .string (B (tkAt l i).2), .int .i64 a])) ∧ Below w.heap.size w w' := by
  obtain ⟨c0, c1, c2, f1, f2⟩ := h.cells
  obtain ⟨A, c, rfl, hl, ht⟩ := h.tok
  have hi := h.hi
  have hbw := h.lt
  have HT := Lib.hid ht
  clear h ht
  rcases Nat.lt_or_ge i l.length with hlt | hge
  · obtain ⟨t, hit⟩ : ∃ t, l[i]? = some t := ⟨_, List.getElem?_eq_getElem hlt⟩
    have htk : tkAt l i = t := by unfold tkAt; rw [hit]; rfl
    rw [htk]
    obtain ⟨_, tb, o, a, rfl, hbl, e0, e1, e2⟩ := HT.out i t hit
    have htw : tb < w.heap.size := by omega
    have q : ((i : Int) == (l.length : Int)) = false := by rw [beq_eq_false_iff_ne]; omega
    clear hit htk HT
    go_enter Tryz.func94, Tryz.ntmps94
    go_wp2_with fail
    go_region
    go_wp2_with fail
    go_region
    go_wp2_with fail
    exact bodyPost_ret (v := .agg #[.int .i64 t.1, .string (B t.2), .int .i64 a]) (by simp [results, Tryz.results94, go_sem]) rfl ⟨⟨_, rfl⟩, ((S3.bal w _).drew).drew⟩
  · obtain rfl : i = l.length := by omega
    have htk : tkAt l l.length = (0, []) := by unfold tkAt; rw [List.getElem?_eq_none (Nat.le_refl _)]; rfl
    rw [htk]
    go_enter Tryz.func94, Tryz.ntmps94
    go_wp2_with fail
    go_region
    go_wp2_with fail
    exact bodyPost_ret (v := .agg #[.int .i64 0, .string (B []), .int .i64 0]) (by simp [results, Tryz.results94, go_sem]) rfl ⟨⟨_, rfl⟩, (S3.bal w _).drew⟩

set_option maxHeartbeats 1000000 in
theorem rsign_calls {w : World} {l : TL} {v : Value} {b i d : Nat} (h : Rd w l v b i d) :
    Calls Tryz.prog 73 #[rp b] w fun e w' => e = .returned (.string (B (sgAt l i))) ∧ Below w.heap.size w w' := by
  have C := Lib.hid (token_calls h)
  clear h
  unfold sgAt
  by_cases hk : (tkAt l i).1 = 4
  · rw [if_pos hk]
    have q : ((tkAt l i).1 == 4) = true := by rw [hk]; rfl
    generalize tkAt l i = t at *
    clear hk
    go_enter Tryz.func73, Tryz.ntmps73
    go_wp2_with fail
    refine C.out.mono ?_
    rintro e w1 ⟨⟨a, rfl⟩, hb⟩
    have HB := Lib.hid hb
    clear hb C
    go_wp2_with fail
    go_ret
    exact ⟨rfl, HB.out.alloc HB.out.size _⟩
  · rw [if_neg hk]
    have q : ((tkAt l i).1 == 4) = false := beq_eq_false_iff_ne.2 hk
    generalize tkAt l i = t at *
    clear hk
    go_enter Tryz.func73, Tryz.ntmps73
    go_wp2_with fail
    refine C.out.mono ?_
    rintro e w1 ⟨⟨a, rfl⟩, hb⟩
    have HB := Lib.hid hb
    clear hb C
    go_wp2_with fail
    go_ret
    exact ⟨rfl, HB.out.alloc HB.out.size _⟩

theorem need_yes (b : Nat) (w : World) : Calls Tryz.prog 93 #[rp b, .bool true] w fun e w' => e = .returned (.tuple #[]) ∧ w = w' := by
  go_enter Tryz.func93, Tryz.ntmps93
  go_wp2_with fail
  go_end0
  exact ⟨rfl, rfl⟩
theorem need_no {w : World} {l : TL} {v : Value} {b i d : Nat} (h : Rd w l v b i d) : Calls Tryz.prog 93 #[rp b, .bool false] w fun e w' => e = bad i 7 ∧ w = w' := by
  obtain ⟨c0, c1, c2, f1, f2⟩ := h.cells
  clear h
  go_enter Tryz.func93, Tryz.ntmps93
  go_wp2_with fail
  exact ⟨rfl, rfl, rfl⟩
/-- A sign that has to be there, and is. -/
theorem pass_yes {w : World} {l : TL} {v : Value} {b i d : Nat} (h : Rd w l v b i d) {s : Bytes} (hs : sgAt l i = s) (hn : s ≠ []) :
    Calls Tryz.prog 72 #[rp b, .string (B s)] w fun e w' => e = .returned (.tuple #[]) ∧ Rd w' l v b (i + 1) d ∧ Fr b w w' := by
  have C := rsign_calls h
  rw [hs] at C
  have C := Lib.hid C
  have hi := sgAt_lt hs hn
  have hle := h.len
  have H := Lib.hid h
  have q : (s == s) = true := beq_self_eq_true _
  clear h hs hn
  go_enter Tryz.func72, Tryz.ntmps72
  go_wp2_with fail
  refine C.out.mono ?_
  rintro e w1 ⟨rfl, hb⟩
  have HB := Lib.hid hb
  have H1 := Lib.hid (H.out.bel hb)
  clear hb C
  go_wp2_with fail
  refine (need_yes b _).mono ?_
  rintro e w2 ⟨rfl, rfl⟩
  obtain ⟨c0, c1, c2, f1, f2⟩ := H1.out.cells
  go_wp2_with fail
  go_end0
  exact ⟨rfl, H1.out.inc1 hi, (Fr.of HB.out).set 1 _⟩
theorem pass_no {w : World} {l : TL} {v : Value} {b i d : Nat} (h : Rd w l v b i d) {s : Bytes} (hs : sgAt l i ≠ s) :
    Calls Tryz.prog 72 #[rp b, .string (B s)] w fun e w' => e = bad i 7 ∧ Fr b w w' := by
  have C := Lib.hid (rsign_calls h)
  have H := Lib.hid h
  have q : (sgAt l i == s) = false := beq_eq_false_iff_ne.2 hs
  clear h hs
  go_enter Tryz.func72, Tryz.ntmps72
  go_wp2_with fail
  refine C.out.mono ?_
  rintro e w1 ⟨rfl, hb⟩
  have HB := Lib.hid hb
  have H1 := Lib.hid (H.out.bel hb)
  clear hb C
  go_wp2_with fail
  refine (need_no H1.out).mono ?_
  rintro e w2 ⟨rfl, rfl⟩
  go_wp2_with fail
  exact ⟨rfl, rfl, Fr.of HB.out⟩
theorem open_yes {w : World} {l : TL} {v : Value} {b i d : Nat} (h : Rd w l v b i d) (hd : d < 40) (hi : i < l.length) :
    Calls Tryz.prog 149 #[rp b] w fun e w' => e = .returned (.tuple #[]) ∧ Rd w' l v b (i + 1) (d + 1) ∧ Fr b w w' := by
  obtain ⟨c0, c1, c2, f1, f2⟩ := h.cells
  have hle := h.len
  have H := Lib.hid h
  have q2 : ¬ (40 : Int) ≤ (d : Int) := by omega
  clear h
  go_enter Tryz.func149, Tryz.ntmps149
  go_wp2_with fail
  go_end0
  exact ⟨rfl, (H.out.inc2 (by omega)).inc1 hi, ((Fr.refl b w).set 2 _).set 1 _⟩
theorem open_no {w : World} {l : TL} {v : Value} {b i d : Nat} (h : Rd w l v b i d) (hd : 40 ≤ d) :
    Calls Tryz.prog 149 #[rp b] w fun e w' => e = bad i 8 ∧ w = w' := by
  obtain ⟨c0, c1, c2, f1, f2⟩ := h.cells
  have q2 : (40 : Int) ≤ (d : Int) := by omega
  clear h
  go_enter Tryz.func149, Tryz.ntmps149
  go_wp2_with fail
  exact ⟨rfl, rfl, rfl⟩
theorem leaf_calls {w : World} {l : TL} {v : Value} {b i d : Nat} (h : Rd w l v b i d) (hi : i < l.length) (e : Ex) (A : Option Addr) (n c : Nat) :
    Calls Tryz.prog 130 #[rp b, S3.eV e (.slice A n c)] w fun E w' => E = .returned (S3.eV e (.slice A n c)) ∧ Rd w' l v b (i + 1) d ∧ Fr b w w' := by
  obtain ⟨c0, c1, c2, f1, f2⟩ := h.cells
  have hle := h.len
  have hbw := h.lt
  have H := Lib.hid h
  clear h
  go_enter Tryz.func130, Tryz.ntmps130
  go_wp2_with fail
  exact bodyPost_ret (v := S3.eV e (.slice A n c)) (by simp [results, Tryz.results130, go_sem]) rfl ⟨rfl, ((H.out.inc1 hi).al _).al _, (((Fr.refl b w).set 1 _).al _).al _⟩

/-! ### expressions in memory, and what a part of the reader gives -/
/-- New memory alone: blocks from n on, below m. -/
abbrev Rn (n m : Nat) : Nat → Prop := fun x => n ≤ x ∧ x < m
theorem er_fr {w w' : World} {b n : Nat} {l : List Ex} {v : Value} (h : S3.ER w (Rn n w.heap.size) l v) (hb : b < n) (hf : Fr b w w') : S3.ER w' (Rn n w'.heap.size) l v :=
  h.keep (fun _ hx => ⟨hx.1, Nat.lt_of_lt_of_le hx.2 hf.size⟩) fun _ _ hx => hf.cell hx.2 (by have := hx.1; omega)
theorem er_bel {w w' : World} {n : Nat} {l : List Ex} {v : Value} (h : S3.ER w (Rn n w.heap.size) l v) (hb : Below w.heap.size w w') : S3.ER w' (Rn n w'.heap.size) l v :=
  h.keep (fun _ hx => ⟨hx.1, Nat.lt_of_lt_of_le hx.2 hb.size⟩) fun _ _ hx => hb.cell hx.2
theorem er_in {w : World} {n m : Nat} {l : List Ex} {v : Value} (h : S3.ER w (Rn n m) l v) (hm : m ≤ w.heap.size) : S3.EIn w w.heap.size l v := h.keep (fun _ hx => Nat.lt_of_lt_of_le hx.2 hm) fun _ _ _ => rfl
theorem er_mono {w : World} {n n' m m' : Nat} {l : List Ex} {v : Value} (h : S3.ER w (Rn n m) l v) (hn : n' ≤ n) (hm : m ≤ m') : S3.ER w (Rn n' m') l v := h.keep (fun _ hx => ⟨Nat.le_trans hn hx.1, Nat.lt_of_lt_of_le hx.2 hm⟩) fun _ _ _ => rfl
/-- What is promised of a part of the reader. -/
def Post (w : World) (l : TL) (v : Value) (b d : Nat) : Res → Ending → World → Prop
  | .ok e n => fun E w' => ∃ A k c, E = .returned (S3.eV e (.slice A k c)) ∧ S3.OkE e ∧ S3.ER w' (Rn w.heap.size w'.heap.size) e.args (.slice A k c) ∧ Rd w' l v b n d ∧ Fr b w w'
  | .bad a c => fun E w' => E = bad a c ∧ Fr b w w'
theorem okI_small {n : Int} (h : 0 ≤ n) (h2 : n ≤ 100) : S3.okI n := by unfold S3.okI; omega
theorem okE_leaf {k : Int} {n : Int} {s : Bytes} (hk : 0 ≤ k ∧ k ≤ 7) (hn : S3.okI n) (hs : s.length ≤ 9223372036854775807) : S3.OkE ⟨k, 0, n, s, []⟩ := ⟨okI_small hk.1 (Int.le_trans hk.2 (by decide)), okI_small (Int.le_refl 0) (show (0 : Int) ≤ 100 by decide), hn, hs⟩

/-- Block q holds five cells, of an expression's type. -/
def R5 (w : World) (q : Nat) : Prop := ∃ a0 a1 a2 a3 a4, w.heap[q]? = some (.cells #[a0, a1, a2, a3, a4] 29 (0, 0))
theorem R5.lt {w : World} {q : Nat} (h : R5 w q) : q < w.heap.size := by
  obtain ⟨_, _, _, _, _, h⟩ := h
  rcases Nat.lt_or_ge q w.heap.size with h1 | h1
  · exact h1
  · rw [Array.getElem?_eq_none h1] at h; cases h
theorem R5.bel {w w' : World} {q : Nat} (h : R5 w q) (hb : Below w.heap.size w w') : R5 w' q := by
  have hl := h.lt
  obtain ⟨_, _, _, _, _, h⟩ := h
  exact ⟨_, _, _, _, _, (hb.block q hl).trans h⟩
theorem R5.fr {w w' : World} {b q : Nat} (h : R5 w q) (hq : q ≠ b) (hb : Fr b w w') : R5 w' q := by
  have hl := h.lt
  obtain ⟨_, _, _, _, _, h⟩ := h
  exact ⟨_, _, _, _, _, (hb.block q hl hq).trans h⟩
theorem R5.new (w : World) (a0 a1 a2 a3 a4 : Value) : R5 (w.alloc (.cells #[a0, a1, a2, a3, a4] 29)) w.heap.size := ⟨_, _, _, _, _, heap_alloc_new w _⟩
theorem R5.facts {w : World} {q : Nat} (h : R5 w q) : ∃ a0 a1 a2 a3 a4, w.cell? ⟨q, 0, none⟩ = some a0 ∧ w.cell? ⟨q, 1, none⟩ = some a1 ∧ w.cell? ⟨q, 2, none⟩ = some a2 ∧ w.cell? ⟨q, 3, none⟩ = some a3 ∧ w.cell? ⟨q, 4, none⟩ = some a4 ∧
    w.frozen? ⟨q, 0, none⟩ = false ∧ w.frozen? ⟨q, 1, none⟩ = false ∧ w.frozen? ⟨q, 2, none⟩ = false ∧ w.frozen? ⟨q, 3, none⟩ = false ∧ w.frozen? ⟨q, 4, none⟩ = false := by
  obtain ⟨a0, a1, a2, a3, a4, h⟩ := h
  refine ⟨a0, a1, a2, a3, a4, (cell_of_row _ _ 0 _ _ _ h).trans rfl, (cell_of_row _ _ 1 _ _ _ h).trans rfl, (cell_of_row _ _ 2 _ _ _ h).trans rfl, (cell_of_row _ _ 3 _ _ _ h).trans rfl, (cell_of_row _ _ 4 _ _ _ h).trans rfl, ?_, ?_, ?_, ?_, ?_⟩ <;> unfold World.frozen? <;> rw [h] <;> rfl
/-- An expression stored into such a block. -/
abbrev put5 (w : World) (q : Nat) (a0 a1 a2 a3 a4 : Value) : World := ((((w.setCell ⟨q, 0, none⟩ a0).setCell ⟨q, 1, none⟩ a1).setCell ⟨q, 2, none⟩ a2).setCell ⟨q, 3, none⟩ a3).setCell ⟨q, 4, none⟩ a4
theorem put5_size (w : World) (q : Nat) (a0 a1 a2 a3 a4 : Value) : (put5 w q a0 a1 a2 a3 a4).heap.size = w.heap.size := by simp [World.setCell]
theorem put5_heap (w : World) (q : Nat) (a0 a1 a2 a3 a4 : Value) (k : Nat) (hk : k ≠ q) : (put5 w q a0 a1 a2 a3 a4).heap[k]? = w.heap[k]? := by
  unfold put5
  rw [Below.heap_setCell _ _ _ _ hk, Below.heap_setCell _ _ _ _ hk, Below.heap_setCell _ _ _ _ hk, Below.heap_setCell _ _ _ _ hk, Below.heap_setCell _ _ _ _ hk]
theorem put5_below {w w1 : World} (hb : Below w.heap.size w w1) {q : Nat} (hq : w.heap.size ≤ q) (a0 a1 a2 a3 a4 : Value) : Below w.heap.size w (put5 w1 q a0 a1 a2 a3 a4) :=
  ((((hb.setCell (p := ⟨q, 0, none⟩) hq _).setCell (p := ⟨q, 1, none⟩) hq _).setCell (p := ⟨q, 2, none⟩) hq _).setCell (p := ⟨q, 3, none⟩) hq _).setCell (p := ⟨q, 4, none⟩) hq _
theorem put5_rd {w : World} {l : TL} {v : Value} {b i d q : Nat} (h : Rd w l v b i d) (hq : b < q) (a0 a1 a2 a3 a4 : Value) : Rd (put5 w q a0 a1 a2 a3 a4) l v b i d :=
  ((((h.other (p := ⟨q, 0, none⟩) hq _).other (p := ⟨q, 1, none⟩) hq _).other (p := ⟨q, 2, none⟩) hq _).other (p := ⟨q, 3, none⟩) hq _).other (p := ⟨q, 4, none⟩) hq _
theorem put5_fr {w w1 : World} {b q : Nat} (h : Fr b w w1) (hq : w.heap.size ≤ q) (a0 a1 a2 a3 a4 : Value) : Fr b w (put5 w1 q a0 a1 a2 a3 a4) :=
  ((((h.setNew (p := ⟨q, 0, none⟩) hq _).setNew (p := ⟨q, 1, none⟩) hq _).setNew (p := ⟨q, 2, none⟩) hq _).setNew (p := ⟨q, 3, none⟩) hq _).setNew (p := ⟨q, 4, none⟩) hq _
theorem put5_er {w : World} {n q : Nat} {l : List Ex} {v : Value} (h : S3.ER w (Rn n w.heap.size) l v) (hq : q < n) (a0 a1 a2 a3 a4 : Value) : S3.ER (put5 w q a0 a1 a2 a3 a4) (Rn n (put5 w q a0 a1 a2 a3 a4).heap.size) l v :=
  h.keep (fun _ hx => ⟨hx.1, by rw [put5_size]; exact hx.2⟩) fun x _ hx => World.cell?_of_block (w := w) (put5_heap w q a0 a1 a2 a3 a4 x (by have := hx.1; omega))
/-- The end of a part: the expression that a call gave is laid into the result's variable. -/
theorem post_end {w wc w1 : World} {l : TL} {v : Value} {b d n q : Nat} {e : Ex} {A : Option Addr} {k c : Nat} (hw : w.heap.size ≤ q) (hq : q < wc.heap.size) (hbq : b < q) (hf : Fr b w wc)
    (ho : S3.OkE e) (hE : S3.ER w1 (Rn wc.heap.size w1.heap.size) e.args (.slice A k c)) (hR : Rd w1 l v b n d) (hf1 : Fr b wc w1) (a0 a1 a2 a3 a4 : Value) :
    Post w l v b d (.ok e n) (.returned (S3.eV e (.slice A k c))) (put5 w1 q a0 a1 a2 a3 a4) :=
  ⟨A, k, c, rfl, ho, er_mono (put5_er hE hq a0 a1 a2 a3 a4) (by omega) (Nat.le_refl _), put5_rd hR hbq a0 a1 a2 a3 a4, put5_fr (hf.trans hf1) hw a0 a1 a2 a3 a4⟩

set_option maxHeartbeats 1000000 in
theorem whole_yes {w : World} {l : TL} {v : Value} {b i d : Nat} (h : Rd w l v b i d) (e : Ex) (ho : S3.OkE e) (A : Option Addr) (k c : Nat) (hE : S3.EIn w w.heap.size e.args (.slice A k c)) (hx : S3.exB e = true) :
    Calls Tryz.prog 87 #[rp b, S3.eV e (.slice A k c)] w fun E w' => E = .returned (S3.eV e (.slice A k c)) ∧ Below w.heap.size w w' := by
  have hb1 : ∀ o1 o2, Below w.heap.size w ((w.alloc o1).alloc o2) := fun o1 o2 => S3.bal2 w o1 o2
  have C := fun o1 o2 => S3.expr_calls e ho (.slice A k c) ((w.alloc o1).alloc o2) (S3.EIn.up hE (hb1 o1 o2)) (h.bel (hb1 o1 o2)).g.s
  rw [hx, S3.errI_true] at C
  have C := Lib.hid C
  have HB := Lib.hid hb1
  clear h hE hb1 ho hx
  go_enter Tryz.func87, Tryz.ntmps87
  go_wp2_with fail
  refine (C.out _ _).mono ?_
  rintro x w1 ⟨rfl, hb⟩
  have HW := Lib.hid (after (HB.out _ _) hb)
  have q5 := ((R5.new (w.alloc (.cells #[.int .i64 e.kind, .int .i64 e.op, .int .i64 e.num, .string (S3.B e.name), .slice A k c] 29)) (.int .i64 0) (.int .i64 0) (.int .i64 0) (.string ⟨#[]⟩) (.slice none 0 0)).bel hb).facts
  rw [S3.sz1] at q5
  obtain ⟨z0, z1, z2, z3, z4, r0, r1, r2, r3, r4, y0, y1, y2, y3, y4⟩ := q5
  have kc : ∀ (j : Nat) (u : Value), (#[.int .i64 e.kind, .int .i64 e.op, .int .i64 e.num, .string (S3.B e.name), .slice A k c] : Array Value)[j]? = some u → w1.cell? ⟨w.heap.size, j, none⟩ = some u := fun j u hj => (hb.cell (p := ⟨w.heap.size, j, none⟩) (by simp; omega)).trans ((World.cell?_alloc_lt _ _ _ (by simp)).trans (S3.newCell w _ 29 j u hj))
  have k0 := kc 0 (.int .i64 e.kind) rfl
  have k1 := kc 1 (.int .i64 e.op) rfl
  have k2 := kc 2 (.int .i64 e.num) rfl
  have k3 := kc 3 (.string (S3.B e.name)) rfl
  have k4 := kc 4 (.slice A k c) rfl
  clear kc hb C HB
  go_wp2_with fail
  exact bodyPost_ret (v := S3.eV e (.slice A k c)) (by simp [results, Tryz.results87, go_sem, r0, r1, r2, r3, r4]) rfl ⟨rfl, put5_below HW.out (Nat.le_succ _) _ _ _ _ _⟩
set_option maxHeartbeats 1000000 in
theorem whole_no {w : World} {l : TL} {v : Value} {b i d : Nat} (h : Rd w l v b i d) (hi : 1 ≤ i) (e : Ex) (ho : S3.OkE e) (A : Option Addr) (k c : Nat) (hE : S3.EIn w w.heap.size e.args (.slice A k c)) (hx : S3.exB e = false) :
    Calls Tryz.prog 87 #[rp b, S3.eV e (.slice A k c)] w fun E w' => E = bad (i - 1) 8 ∧ Below w.heap.size w w' := by
  have hb1 : ∀ o1 o2, Below w.heap.size w ((w.alloc o1).alloc o2) := fun o1 o2 => S3.bal2 w o1 o2
  have C := fun o1 o2 => S3.expr_calls e ho (.slice A k c) ((w.alloc o1).alloc o2) (S3.EIn.up hE (hb1 o1 o2)) (h.bel (hb1 o1 o2)).g.s
  rw [hx, S3.errI_false] at C
  have C := Lib.hid C
  have HB := Lib.hid hb1
  have H := Lib.hid (fun o1 o2 => h.bel (hb1 o1 o2))
  have hle := h.len
  have hlen := h.hi
  obtain ⟨i, rfl⟩ : ∃ j, i = j + 1 := ⟨i - 1, by omega⟩
  clear h hE hb1 ho hx hi
  go_enter Tryz.func87, Tryz.ntmps87
  go_wp2_with fail
  refine (C.out _ _).mono ?_
  rintro x w1 ⟨rfl, hb⟩
  have HW := Lib.hid (after (HB.out _ _) hb)
  have H1 := Lib.hid ((H.out _ _).bel hb)
  obtain ⟨c0, c1, c2, f1, f2⟩ := H1.out.cells
  clear hb C HB
  go_wp2_with fail
  exact ⟨rfl, rfl, HW.out⟩
end Go.Proofs.YtiboolnampnhfaaGreatDoor.E5
