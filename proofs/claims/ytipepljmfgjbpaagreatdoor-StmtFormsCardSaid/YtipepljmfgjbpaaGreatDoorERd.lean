/-
  The reader in memory: its cursor, its nesting, what stays; its small functions: contracts.
  The reader's leaves: number, name, len, keywords: contracts.
-/
import Derived.Test.YtipepljmfgjbpaaGreatDoorECur
import Derived.StillTailTactics
import Derived.Lib.QuietBelow
import Derived.BigQuiet
import Derived.Deep.QuietTactic
import Derived.Deep.RegionWith
namespace Go.Proofs.YtipepljmfgjbpaaGreatDoor.E5
open Go Go.RowKit Go.Sort Go.Proofs.YtipepljmfgjbpaaGreatDoor

/-- Where a reader lies: its cursor's block, its own, and its type. -/
structure RB where
  c : Nat
  r : Nat
  lt : c < r
  T : TypeId
instance : CoeOut RB Nat := ⟨RB.r⟩
abbrev rp (b : RB) : Value := .pointer (some ⟨b.r, 0, none⟩)

/-- All but the reader and its cursor is as it was. -/
structure Fr (b : RB) (w w' : World) : Prop where
  os : w'.os = w.os
  tape : w'.tape = w.tape
  output : w'.output = w.output
  size : w.heap.size ≤ w'.heap.size
  blk : ∀ k, k < w.heap.size → k ≠ b.c → k ≠ b.r → w'.heap[k]? = w.heap[k]?
theorem Fr.refl (b : RB) (w : World) : Fr b w w := ⟨rfl, rfl, rfl, Nat.le_refl _, fun _ _ _ _ => rfl⟩
theorem Fr.trans {b : RB} {u v w : World} (h : Fr b u v) (k : Fr b v w) : Fr b u w :=
  ⟨k.os.trans h.os, k.tape.trans h.tape, k.output.trans h.output, Nat.le_trans h.size k.size, fun i hi h1 h2 => (k.blk i (Nat.lt_of_lt_of_le hi h.size) h1 h2).trans (h.blk i hi h1 h2)⟩
theorem Fr.of {b : RB} {w w' : World} (h : Below w.heap.size w w') : Fr b w w' := ⟨h.os, h.tape, h.output, h.size, fun k hk _ _ => h.block k hk⟩
theorem Fr.ofC {b : RB} {w w' : World} (h : FrC b.c w w') : Fr b w w' := ⟨h.os, h.tape, h.output, h.size, fun k hk h1 _ => h.block k hk h1⟩
theorem Fr.block {b : RB} {w w' : World} (h : Fr b w w') (k : Nat) (hk : k < w.heap.size) (hb : b.r < k) : w'.heap[k]? = w.heap[k]? := h.blk k hk (by have := b.lt; omega) (by omega)
theorem Fr.setA {b : RB} {w w' : World} (h : Fr b w w') (u : Value) : Fr b w (w'.setCell ⟨b.c, 1, none⟩ u) :=
  ⟨h.os, h.tape, h.output, by simpa [World.setCell] using h.size, fun k hk h1 h2 => (Below.heap_setCell w' ⟨b.c, 1, none⟩ u k h1).trans (h.blk k hk h1 h2)⟩
theorem Fr.setN {b : RB} {w w' : World} (h : Fr b w w') (u : Value) : Fr b w (w'.setCell ⟨b.r, 1, none⟩ u) :=
  ⟨h.os, h.tape, h.output, by simpa [World.setCell] using h.size, fun k hk h1 h2 => (Below.heap_setCell w' ⟨b.r, 1, none⟩ u k h2).trans (h.blk k hk h1 h2)⟩
/-- A store into a block that is new. -/
theorem Fr.setNew {b : RB} {w w' : World} (h : Fr b w w') {p : Addr} (hp : w.heap.size ≤ p.block) (u : Value) : Fr b w (w'.setCell p u) :=
  ⟨h.os, h.tape, h.output, by simpa [World.setCell] using h.size, fun k hk h1 h2 => (Below.heap_setCell w' p u k (by omega)).trans (h.blk k hk h1 h2)⟩
theorem Fr.bel {b : RB} {w w' : World} (h : Fr b w w') (hb : b.c ≤ w.heap.size) : Below b.c w w' := ⟨h.os, h.tape, h.output, h.size, fun k hk => h.blk k (by omega) (by omega) (by have := b.lt; omega)⟩
theorem Fr.cell {b : RB} {w w' : World} (h : Fr b w w') {k i : Nat} (hk : k < w.heap.size) (hb : b.r < k) : w'.cell? ⟨k, i, none⟩ = w.cell? ⟨k, i, none⟩ := World.cell?_of_block (w := w) (h.block k hk hb)
theorem Fr.al {b : RB} {w w' : World} (h : Fr b w w') (o : Obj) : Fr b w (w'.alloc o) := h.trans (.of ((Below.refl _ w').alloc (Nat.le_refl _) o))

/-- The reader: its tokens, where it stands, its nesting. -/
structure Rd (w : World) (l : TL) (v : Value) (b : RB) (i d : Nat) : Prop where
  row : w.heap[b.r]? = some (.cells #[cpt b.c, .int .i64 (d : Int)] b.T (0, 0))
  cu : Cu w l v b.c i
  hd : d ≤ 9223372036854775807
theorem Rd.hi {w : World} {l : TL} {v : Value} {b : RB} {i d : Nat} (h : Rd w l v b i d) : i ≤ l.length := h.cu.hi
theorem Rd.g {w : World} {l : TL} {v : Value} {b : RB} {i d : Nat} (h : Rd w l v b i d) : GlobE w := h.cu.g
theorem Rd.big {w : World} {l : TL} {v : Value} {b : RB} {i d : Nat} (h : Rd w l v b i d) : 6 < b.r := Nat.lt_trans h.cu.big b.lt
theorem Rd.lt {w : World} {l : TL} {v : Value} {b : RB} {i d : Nat} (h : Rd w l v b i d) : b.r < w.heap.size := by
  rcases Nat.lt_or_ge b.r w.heap.size with h1 | h1
  · exact h1
  · have := h.row; rw [Array.getElem?_eq_none h1] at this; cases this
theorem Rd.belM {w w' : World} {l : TL} {v : Value} {b : RB} {i d M : Nat} (h : Rd w l v b i d) (hM : b.r < M) (hb : Below M w w') : Rd w' l v b i d :=
  ⟨(hb.block b.r hM).trans h.row, h.cu.belM (Nat.lt_trans b.lt hM) hb, h.hd⟩
theorem Rd.bel {w w' : World} {l : TL} {v : Value} {b : RB} {i d : Nat} (h : Rd w l v b i d) (hb : Below w.heap.size w w') : Rd w' l v b i d := h.belM h.lt hb
theorem Rd.al {w : World} {l : TL} {v : Value} {b : RB} {i d : Nat} (h : Rd w l v b i d) (o : Obj) : Rd (w.alloc o) l v b i d := h.bel ((Below.refl _ w).alloc (Nat.le_refl _) o)
theorem Rd.len {w : World} {l : TL} {v : Value} {b : RB} {i d : Nat} (h : Rd w l v b i d) : l.length ≤ 9223372036854775807 := h.cu.len
theorem Rd.text {w : World} {l : TL} {v : Value} {b : RB} {i d : Nat} (h : Rd w l v b i d) (j : Nat) : (tkAt l j).2.length ≤ 9223372036854775807 := h.cu.text j
/-- A store into another block that is no token's and no variable's. -/
theorem Rd.other {w : World} {l : TL} {v : Value} {b : RB} {i d : Nat} (h : Rd w l v b i d) {p : Addr} (hp : b.r < p.block) (u : Value) : Rd (w.setCell p u) l v b i d :=
  h.belM (M := b.r + 1) (by omega) ((Below.refl _ w).setCell (by omega) u)
/-- The cursor has gone on. -/
theorem Rd.go {w w' : World} {l : TL} {v : Value} {b : RB} {i d j : Nat} (h : Rd w l v b i d) (hc : Cu w' l v b.c j) (hf : FrC b.c w w') : Rd w' l v b j d :=
  ⟨(hf.block b.r h.lt (by have := b.lt; omega)).trans h.row, hc, h.hd⟩
theorem Rd.set2 {w : World} {l : TL} {v : Value} {b : RB} {i d : Nat} (h : Rd w l v b i d) (j : Nat) (hj : j ≤ 9223372036854775807) : Rd (w.setCell ⟨b.r, 1, none⟩ (.int .i64 (j : Int))) l v b i j := by
  refine ⟨?_, h.cu.other (p := ⟨b.r, 1, none⟩) b.lt _, hj⟩
  simp only [World.setCell, Array.getElem?_modify, if_true, h.row]
  rfl
theorem Rd.inc1 {w : World} {l : TL} {v : Value} {b : RB} {i d : Nat} (h : Rd w l v b i d) (hj : i < l.length) : Rd (w.setCell ⟨b.c, 1, none⟩ (.int .i64 ((i : Int) + 1))) l v b (i + 1) d :=
  h.go (h.cu.inc1 hj) ((FrC.refl b.c w).set 1 _)
theorem Rd.inc2 {w : World} {l : TL} {v : Value} {b : RB} {i d : Nat} (h : Rd w l v b i d) (hj : d < 9223372036854775807) : Rd (w.setCell ⟨b.r, 1, none⟩ (.int .i64 ((d : Int) + 1))) l v b i (d + 1) := by
  have := h.set2 (d + 1) hj
  rwa [show ((d + 1 : Nat) : Int) = (d : Int) + 1 from rfl] at this
theorem Rd.ptr {w : World} {l : TL} {v : Value} {b : RB} {i d : Nat} (h : Rd w l v b i d) : w.cell? ⟨b.r, 0, none⟩ = some (cpt b.c) := (cell_of_row _ _ 0 _ _ _ h.row).trans rfl
theorem Rd.cells {w : World} {l : TL} {v : Value} {b : RB} {i d : Nat} (h : Rd w l v b i d) : w.cell? ⟨b.r, 0, none⟩ = some (cpt b.c) ∧ w.cell? ⟨b.c, 0, none⟩ = some v ∧ w.cell? ⟨b.c, 1, none⟩ = some (.int .i64 (i : Int)) ∧ w.cell? ⟨b.r, 1, none⟩ = some (.int .i64 (d : Int)) ∧ w.frozen? ⟨b.c, 1, none⟩ = false ∧ w.frozen? ⟨b.r, 1, none⟩ = false := by
  refine ⟨h.ptr, h.cu.cells.1, h.cu.cells.2.1, (cell_of_row _ _ 1 _ _ _ h.row).trans rfl, h.cu.cells.2.2, ?_⟩
  unfold World.frozen?; rw [h.row]; rfl
theorem RB.ltw {w : World} {b : RB} (h : b.r < w.heap.size) : b.c < w.heap.size := Nat.lt_trans b.lt h

/-! ### the cursor's functions, of a reader -/
theorem token_calls {w : World} {l : TL} {v : Value} {b : RB} {i d : Nat} (h : Rd w l v b i d) :
    Calls Tryz.prog 56 #[cpt b.c, .int .i64 0] w fun e w' => (∃ a : Int, e = .returned (.agg #[.int .i64 (tkAt l i).1, .string (B (tkAt l i).2), .int .i64 a])) ∧ Below w.heap.size w w' :=
  token_cu h.cu 0 (by have := h.hi; have := h.len; omega)
theorem rsign_calls {w : World} {l : TL} {v : Value} {b : RB} {i d : Nat} (h : Rd w l v b i d) :
    Calls Tryz.prog 40 #[cpt b.c] w fun e w' => e = .returned (.string (B (sgAt l i))) ∧ Below w.heap.size w w' := sign_cu h.cu
theorem rkeyw_calls {w : World} {l : TL} {v : Value} {b : RB} {i d : Nat} (h : Rd w l v b i d) :
    Calls Tryz.prog 32 #[cpt b.c] w fun e w' => e = .returned (.string (B (kwAt l i))) ∧ Below w.heap.size w w' := keyword_cu h.cu
theorem need_yes (c : Nat) (w : World) : Calls Tryz.prog 39 #[cpt c, .bool true] w fun e w' => e = .returned (.tuple #[]) ∧ w = w' := needc_yes c w
theorem need_no {w : World} {l : TL} {v : Value} {b : RB} {i d : Nat} (h : Rd w l v b i d) : Calls Tryz.prog 39 #[cpt b.c, .bool false] w fun e w' => e = bad i 7 ∧ w = w' := needc_no h.cu
/-- A sign that has to be there, and is. -/
theorem pass_yes {w : World} {l : TL} {v : Value} {b : RB} {i d : Nat} (h : Rd w l v b i d) {s : Bytes} (hs : sgAt l i = s) (hn : s ≠ []) :
    Calls Tryz.prog 63 #[cpt b.c, .string (B s)] w fun e w' => e = .returned (.tuple #[]) ∧ Rd w' l v b (i + 1) d ∧ Fr b w w' :=
  (pass_cu h.cu hs hn).mono fun _ _ hx => ⟨hx.1, h.go hx.2.1 hx.2.2, .ofC hx.2.2⟩
theorem pass_no {w : World} {l : TL} {v : Value} {b : RB} {i d : Nat} (h : Rd w l v b i d) {s : Bytes} (hs : sgAt l i ≠ s) :
    Calls Tryz.prog 63 #[cpt b.c, .string (B s)] w fun e w' => e = bad i 7 ∧ Fr b w w' :=
  (passc_no h.cu hs).mono fun _ _ hx => ⟨hx.1, .ofC hx.2⟩
/-- A name that has to be there. -/
theorem rname_yes {w : World} {l : TL} {v : Value} {b : RB} {i d : Nat} (h : Rd w l v b i d) (hk : nmTok (tkAt l i) = true) :
    Calls Tryz.prog 50 #[cpt b.c] w fun e w' => e = .returned (.string (B (tkAt l i).2)) ∧ Rd w' l v b (i + 1) d ∧ Fr b w w' :=
  (name_cu h.cu hk).mono fun _ _ hx => ⟨hx.1, h.go hx.2.1 hx.2.2, .ofC hx.2.2⟩
theorem rname_no {w : World} {l : TL} {v : Value} {b : RB} {i d : Nat} (h : Rd w l v b i d) (hk : nmTok (tkAt l i) = false) :
    Calls Tryz.prog 50 #[cpt b.c] w fun e w' => e = bad i 7 ∧ Fr b w w' :=
  (namec_no h.cu hk).mono fun _ _ hx => ⟨hx.1, .ofC hx.2⟩
theorem fail_calls (c : Nat) (j : Nat) (k : Int) (w : World) :
    Calls Tryz.prog 41 #[cpt c, .int .i64 (j : Int), .int .i64 k] w fun e w' => e = bad j k ∧ w = w' := failc c j k w

theorem Rd.dr {w : World} {l : TL} {v : Value} {b : RB} {i d : Nat} (h : Rd w l v b i d) : Rd w.drew l v b i d := h.bel ((Below.refl _ w).drew)
theorem Rd.rg {w : World} {l : TL} {v : Value} {b : RB} {i d : Nat} (h : Rd w l v b i d) (n : Nat) (os : Array Obj) : Rd (grow (redrawn w n) os) l v b i d := h.bel (below_regrown w n os)
/-- For a branch of a drawn region that ends in a panic: the tactic wants a way on. -/
theorem fake_any {P : Program} {f : Func} {post : Ending → World → Prop} {ex : Exit} {act : Act} {world : World} (h : bodyPost P f post ex act world) : wpAny P .any ([] : List Oper).toArray (fun _ _ _ => True) 0 #[] act world → bodyPost P f post ex act world := fun _ => h
theorem need_yesB (c : Nat) (w : World) : Calls Tryz.prog 39 #[cpt c, .bool true] w fun e w' => e = .returned (.tuple #[]) ∧ Below w.heap.size w w' := (needc_yes c w).mono fun _ _ hx => ⟨hx.1, hx.2 ▸ Below.refl _ _⟩

/-! ### the reader's own -/
theorem open_yes {w : World} {l : TL} {v : Value} {b : RB} {i d : Nat} (h : Rd w l v b i d) (hd : d < 40) (hi : i < l.length) :
    Calls Tryz.prog 101 #[rp b] w fun e w' => e = .returned (.tuple #[]) ∧ Rd w' l v b (i + 1) (d + 1) ∧ Fr b w w' := by
  obtain ⟨p0, c0, c1, c2, f1, f2⟩ := h.cells
  have hle := h.len
  have H := Lib.hid h
  have q2 : ¬ (40 : Int) ≤ (d : Int) := by omega
  have hcr : b.c ≠ b.r := by have := b.lt; omega
  have hrc : b.r ≠ b.c := hcr.symm
  clear h
  go_enter Tryz.func101, Tryz.ntmps101
  go_wp2_with fail
  go_end0
  exact ⟨rfl, (H.out.inc2 (by omega)).inc1 hi, ((Fr.refl b w).setN _).setA _⟩
set_option maxRecDepth 100000 in
theorem open_no {w : World} {l : TL} {v : Value} {b : RB} {i d : Nat} (h : Rd w l v b i d) (hd : 40 ≤ d) :
    Calls Tryz.prog 101 #[rp b] w fun e w' => e = bad i 8 ∧ Below w.heap.size w w' := by
  obtain ⟨p0, c0, c1, c2, f1, f2⟩ := h.cells
  have q2 : (40 : Int) ≤ (d : Int) := by omega
  clear h
  go_enter Tryz.func101, Tryz.ntmps101
  go_wp2_with fail
  go_still_tail 11, (by kernel_rfl)
  change wpList _ _ _ _ _ w.drew
  have hdr := Lib.hid ((Below.refl w.heap.size w).drew)
  generalize w.drew = wd at *
  go_wp2_with fail
  refine (fail_calls b.c i 8 wd).mono ?_
  rintro e w1 ⟨rfl, rfl⟩
  go_wp2_with fail
  exact ⟨rfl, rfl, hdr.out⟩
theorem leaf_calls {w : World} {l : TL} {v : Value} {b : RB} {i d : Nat} (h : Rd w l v b i d) (hi : i < l.length) (e : Ex) (A : Option Addr) (n c : Nat) :
    Calls Tryz.prog 92 #[rp b, S3.eV e (.slice A n c)] w fun E w' => E = .returned (S3.eV e (.slice A n c)) ∧ Rd w' l v b (i + 1) d ∧ Fr b w w' := by
  obtain ⟨p0, c0, c1, c2, f1, f2⟩ := h.cells
  have hle := h.len
  have hbw := h.lt
  have hcw := RB.ltw hbw
  have H := Lib.hid h
  clear h
  go_enter Tryz.func92, Tryz.ntmps92
  go_wp2_with fail
  exact bodyPost_ret (v := S3.eV e (.slice A n c)) (by simp [results, Tryz.results92, go_sem]) rfl ⟨rfl, ((H.out.inc1 hi).al _).al _, (((Fr.refl b w).setA _).al _).al _⟩

/-! ### expressions in memory, and what a part of the reader gives -/
/-- New memory alone: blocks from n on, below m. -/
abbrev Rn (n m : Nat) : Nat → Prop := fun x => n ≤ x ∧ x < m
theorem er_fr {w w' : World} {b : RB} {n : Nat} {l : List Ex} {v : Value} (h : S3.ER w (Rn n w.heap.size) l v) (hb : b.r < n) (hf : Fr b w w') : S3.ER w' (Rn n w'.heap.size) l v :=
  h.keep (fun _ hx => ⟨hx.1, Nat.lt_of_lt_of_le hx.2 hf.size⟩) fun _ _ hx => hf.cell hx.2 (by have := hx.1; omega)
theorem er_bel {w w' : World} {n : Nat} {l : List Ex} {v : Value} (h : S3.ER w (Rn n w.heap.size) l v) (hb : Below w.heap.size w w') : S3.ER w' (Rn n w'.heap.size) l v :=
  h.keep (fun _ hx => ⟨hx.1, Nat.lt_of_lt_of_le hx.2 hb.size⟩) fun _ _ hx => hb.cell hx.2
theorem er_in {w : World} {n m : Nat} {l : List Ex} {v : Value} (h : S3.ER w (Rn n m) l v) (hm : m ≤ w.heap.size) : S3.EIn w w.heap.size l v := h.keep (fun _ hx => Nat.lt_of_lt_of_le hx.2 hm) fun _ _ _ => rfl
theorem er_mono {w : World} {n n' m m' : Nat} {l : List Ex} {v : Value} (h : S3.ER w (Rn n m) l v) (hn : n' ≤ n) (hm : m ≤ m') : S3.ER w (Rn n' m') l v := h.keep (fun _ hx => ⟨Nat.le_trans hn hx.1, Nat.lt_of_lt_of_le hx.2 hm⟩) fun _ _ _ => rfl
/-- What is promised of a part of the reader. -/
def Post (w : World) (l : TL) (v : Value) (b : RB) (d : Nat) : Res → Ending → World → Prop
  | .ok e n => fun E w' => ∃ A k c, E = .returned (S3.eV e (.slice A k c)) ∧ S3.OkE e ∧ S3.ER w' (Rn w.heap.size w'.heap.size) e.args (.slice A k c) ∧ Rd w' l v b n d ∧ Fr b w w'
  | .bad a c => fun E w' => E = bad a c ∧ Fr b w w'
theorem okI_small {n : Int} (h : 0 ≤ n) (h2 : n ≤ 100) : S3.okI n := by unfold S3.okI; omega
theorem okE_leaf {k : Int} {n : Int} {s : Bytes} (hk : 0 ≤ k ∧ k ≤ 7) (hn : S3.okI n) (hs : s.length ≤ 9223372036854775807) : S3.OkE ⟨k, 0, n, s, []⟩ := ⟨okI_small hk.1 (Int.le_trans hk.2 (by decide)), okI_small (Int.le_refl 0) (show (0 : Int) ≤ 100 by decide), hn, hs⟩

/-- Block q holds five cells, of an expression's type. -/
def R5 (w : World) (q : Nat) : Prop := ∃ a0 a1 a2 a3 a4, w.heap[q]? = some (.cells #[a0, a1, a2, a3, a4] 67 (0, 0))
theorem R5.lt {w : World} {q : Nat} (h : R5 w q) : q < w.heap.size := by
  obtain ⟨_, _, _, _, _, h⟩ := h
  rcases Nat.lt_or_ge q w.heap.size with h1 | h1
  · exact h1
  · rw [Array.getElem?_eq_none h1] at h; cases h
theorem R5.bel {w w' : World} {q : Nat} (h : R5 w q) (hb : Below w.heap.size w w') : R5 w' q := by
  have hl := h.lt
  obtain ⟨_, _, _, _, _, h⟩ := h
  exact ⟨_, _, _, _, _, (hb.block q hl).trans h⟩
theorem R5.fr {w w' : World} {b : RB} {q : Nat} (h : R5 w q) (hq : b.r < q) (hb : Fr b w w') : R5 w' q := by
  have hl := h.lt
  obtain ⟨_, _, _, _, _, h⟩ := h
  exact ⟨_, _, _, _, _, (hb.block q hl hq).trans h⟩
theorem R5.new (w : World) (a0 a1 a2 a3 a4 : Value) : R5 (w.alloc (.cells #[a0, a1, a2, a3, a4] 67)) w.heap.size := ⟨_, _, _, _, _, heap_alloc_new w _⟩
theorem R5.facts {w : World} {q : Nat} (h : R5 w q) : ∃ a0 a1 a2 a3 a4, w.cell? ⟨q, 0, none⟩ = some a0 ∧ w.cell? ⟨q, 1, none⟩ = some a1 ∧ w.cell? ⟨q, 2, none⟩ = some a2 ∧ w.cell? ⟨q, 3, none⟩ = some a3 ∧ w.cell? ⟨q, 4, none⟩ = some a4 ∧
    w.frozen? ⟨q, 0, none⟩ = false ∧ w.frozen? ⟨q, 1, none⟩ = false ∧ w.frozen? ⟨q, 2, none⟩ = false ∧ w.frozen? ⟨q, 3, none⟩ = false ∧ w.frozen? ⟨q, 4, none⟩ = false := by
  obtain ⟨a0, a1, a2, a3, a4, h⟩ := h
  refine ⟨a0, a1, a2, a3, a4, (cell_of_row _ _ 0 _ _ _ h).trans rfl, (cell_of_row _ _ 1 _ _ _ h).trans rfl, (cell_of_row _ _ 2 _ _ _ h).trans rfl, (cell_of_row _ _ 3 _ _ _ h).trans rfl, (cell_of_row _ _ 4 _ _ _ h).trans rfl, ?_, ?_, ?_, ?_, ?_⟩ <;> unfold World.frozen? <;> rw [h] <;> rfl
/-- An expression stored into such a block. -/
abbrev put5 (w : World) (q : Nat) (a0 a1 a2 a3 a4 : Value) : World := ((((w.setCell ⟨q, 0, none⟩ a0).setCell ⟨q, 1, none⟩ a1).setCell ⟨q, 2, none⟩ a2).setCell ⟨q, 3, none⟩ a3).setCell ⟨q, 4, none⟩ a4
theorem put5_size (w : World) (q : Nat) (a0 a1 a2 a3 a4 : Value) : (put5 w q a0 a1 a2 a3 a4).heap.size = w.heap.size := by simp [World.setCell]
theorem put5_heap (w : World) (q : Nat) (a0 a1 a2 a3 a4 : Value) (k : Nat) (hk : k ≠ q) : (put5 w q a0 a1 a2 a3 a4).heap[k]? = w.heap[k]? := by
  unfold put5
  rw [Below.heap_setCell _ _ _ _ hk, Below.heap_setCell _ _ _ _ hk, Below.heap_setCell _ _ _ _ hk, Below.heap_setCell _ _ _ _ hk, Below.heap_setCell _ _ _ _ hk]
theorem put5_below {w w1 : World} (hb : Below w.heap.size w w1) {q : Nat} (hq : w.heap.size ≤ q) (a0 a1 a2 a3 a4 : Value) : Below w.heap.size w (put5 w1 q a0 a1 a2 a3 a4) :=
  ((((hb.setCell (p := ⟨q, 0, none⟩) hq _).setCell (p := ⟨q, 1, none⟩) hq _).setCell (p := ⟨q, 2, none⟩) hq _).setCell (p := ⟨q, 3, none⟩) hq _).setCell (p := ⟨q, 4, none⟩) hq _
theorem put5_rd {w : World} {l : TL} {v : Value} {b : RB} {i d q : Nat} (h : Rd w l v b i d) (hq : b < q) (a0 a1 a2 a3 a4 : Value) : Rd (put5 w q a0 a1 a2 a3 a4) l v b i d :=
  ((((h.other (p := ⟨q, 0, none⟩) hq _).other (p := ⟨q, 1, none⟩) hq _).other (p := ⟨q, 2, none⟩) hq _).other (p := ⟨q, 3, none⟩) hq _).other (p := ⟨q, 4, none⟩) hq _
theorem put5_fr {w w1 : World} {b : RB} {q : Nat} (h : Fr b w w1) (hq : w.heap.size ≤ q) (a0 a1 a2 a3 a4 : Value) : Fr b w (put5 w1 q a0 a1 a2 a3 a4) :=
  ((((h.setNew (p := ⟨q, 0, none⟩) hq _).setNew (p := ⟨q, 1, none⟩) hq _).setNew (p := ⟨q, 2, none⟩) hq _).setNew (p := ⟨q, 3, none⟩) hq _).setNew (p := ⟨q, 4, none⟩) hq _
theorem put5_er {w : World} {n q : Nat} {l : List Ex} {v : Value} (h : S3.ER w (Rn n w.heap.size) l v) (hq : q < n) (a0 a1 a2 a3 a4 : Value) : S3.ER (put5 w q a0 a1 a2 a3 a4) (Rn n (put5 w q a0 a1 a2 a3 a4).heap.size) l v :=
  h.keep (fun _ hx => ⟨hx.1, by rw [put5_size]; exact hx.2⟩) fun x _ hx => World.cell?_of_block (w := w) (put5_heap w q a0 a1 a2 a3 a4 x (by have := hx.1; omega))
/-- The end of a part: the expression that a call gave is laid into the result's variable. -/
theorem post_end {w wc w1 : World} {l : TL} {v : Value} {b : RB} {d n q : Nat} {e : Ex} {A : Option Addr} {k c : Nat} (hw : w.heap.size ≤ q) (hq : q < wc.heap.size) (hbq : b < q) (hf : Fr b w wc)
    (ho : S3.OkE e) (hE : S3.ER w1 (Rn wc.heap.size w1.heap.size) e.args (.slice A k c)) (hR : Rd w1 l v b n d) (hf1 : Fr b wc w1) (a0 a1 a2 a3 a4 : Value) :
    Post w l v b d (.ok e n) (.returned (S3.eV e (.slice A k c))) (put5 w1 q a0 a1 a2 a3 a4) :=
  ⟨A, k, c, rfl, ho, er_mono (put5_er hE hq a0 a1 a2 a3 a4) (by omega) (Nat.le_refl _), put5_rd hR hbq a0 a1 a2 a3 a4, put5_fr (hf.trans hf1) hw a0 a1 a2 a3 a4⟩

set_option maxHeartbeats 1000000 in
theorem whole_yes {w : World} {l : TL} {v : Value} {b : RB} {i d : Nat} (h : Rd w l v b i d) (e : Ex) (ho : S3.OkE e) (A : Option Addr) (k c : Nat) (hE : S3.EIn w w.heap.size e.args (.slice A k c)) (hx : S3.exB e = true) :
    Calls Tryz.prog 85 #[rp b, S3.eV e (.slice A k c)] w fun E w' => E = .returned (S3.eV e (.slice A k c)) ∧ Below w.heap.size w w' := by
  have hb1 : ∀ o1 o2, Below w.heap.size w ((w.alloc o1).alloc o2) := fun o1 o2 => S3.bal2 w o1 o2
  have C := fun o1 o2 => S3.expr_calls e ho (.slice A k c) ((w.alloc o1).alloc o2) (S3.EIn.up hE (hb1 o1 o2)) (h.bel (hb1 o1 o2)).g.s
  rw [hx, S3.errI_true] at C
  have C := Lib.hid C
  have HB := Lib.hid hb1
  clear h hE hb1 ho hx
  go_enter Tryz.func85, Tryz.ntmps85
  go_wp2_with fail
  refine (C.out _ _).mono ?_
  rintro x w1 ⟨rfl, hb⟩
  have HW := Lib.hid (after (HB.out _ _) hb)
  have q5 := ((R5.new (w.alloc (.cells #[.int .i64 e.kind, .int .i64 e.op, .int .i64 e.num, .string (S3.B e.name), .slice A k c] 67)) (.int .i64 0) (.int .i64 0) (.int .i64 0) (.string ⟨#[]⟩) (.slice none 0 0)).bel hb).facts
  rw [S3.sz1] at q5
  obtain ⟨z0, z1, z2, z3, z4, r0, r1, r2, r3, r4, y0, y1, y2, y3, y4⟩ := q5
  have kc : ∀ (j : Nat) (u : Value), (#[.int .i64 e.kind, .int .i64 e.op, .int .i64 e.num, .string (S3.B e.name), .slice A k c] : Array Value)[j]? = some u → w1.cell? ⟨w.heap.size, j, none⟩ = some u := fun j u hj => (hb.cell (p := ⟨w.heap.size, j, none⟩) (by simp; omega)).trans ((World.cell?_alloc_lt _ _ _ (by simp)).trans (S3.newCell w _ 67 j u hj))
  have k0 := kc 0 (.int .i64 e.kind) rfl
  have k1 := kc 1 (.int .i64 e.op) rfl
  have k2 := kc 2 (.int .i64 e.num) rfl
  have k3 := kc 3 (.string (S3.B e.name)) rfl
  have k4 := kc 4 (.slice A k c) rfl
  clear kc hb C HB
  go_wp2_with fail
  exact bodyPost_ret (v := S3.eV e (.slice A k c)) (by simp [results, Tryz.results85, go_sem, r0, r1, r2, r3, r4]) rfl ⟨rfl, put5_below HW.out (Nat.le_succ _) _ _ _ _ _⟩
set_option maxRecDepth 100000 in
set_option maxHeartbeats 1000000 in
theorem whole_no {w : World} {l : TL} {v : Value} {b : RB} {i d : Nat} (h : Rd w l v b i d) (hi : 1 ≤ i) (e : Ex) (ho : S3.OkE e) (A : Option Addr) (k c : Nat) (hE : S3.EIn w w.heap.size e.args (.slice A k c)) (hx : S3.exB e = false) :
    Calls Tryz.prog 85 #[rp b, S3.eV e (.slice A k c)] w fun E w' => E = bad (i - 1) 8 ∧ Below w.heap.size w w' := by
  have hb1 : ∀ o1 o2, Below w.heap.size w ((w.alloc o1).alloc o2) := fun o1 o2 => S3.bal2 w o1 o2
  have C := fun o1 o2 => S3.expr_calls e ho (.slice A k c) ((w.alloc o1).alloc o2) (S3.EIn.up hE (hb1 o1 o2)) (h.bel (hb1 o1 o2)).g.s
  rw [hx, S3.errI_false] at C
  have C := Lib.hid C
  have HB := Lib.hid hb1
  have H := Lib.hid (fun o1 o2 => h.bel (hb1 o1 o2))
  have hle := h.len
  have hlen := h.hi
  obtain ⟨i, rfl⟩ : ∃ j, i = j + 1 := ⟨i - 1, by omega⟩
  clear h hE hb1 ho hx hi
  go_enter Tryz.func85, Tryz.ntmps85
  go_wp2_with fail
  refine (C.out _ _).mono ?_
  rintro x w1 ⟨rfl, hb⟩
  have HW := Lib.hid (after (HB.out _ _) hb)
  have H1 := Lib.hid ((H.out _ _).bel hb)
  obtain ⟨p0, c0, c1, c2, f1, f2⟩ := H1.out.cells
  clear hb C HB
  go_wp2_with fail
  go_still_tail 12, (by kernel_rfl)
  change wpList _ _ _ _ _ w1.drew
  have HD := Lib.hid (HW.out.drew)
  generalize w1.drew = wd at *
  go_wp2_with fail
  refine (fail_calls b.c i 8 wd).mono ?_
  rintro e w2 ⟨rfl, rfl⟩
  go_wp2_with fail
  exact ⟨rfl, rfl, HD.out⟩
end Go.Proofs.YtipepljmfgjbpaaGreatDoor.E5

namespace Go.Proofs.YtipepljmfgjbpaaGreatDoor.E5
open Go Go.RowKit Go.Sort Go.Proofs.YtipepljmfgjbpaaGreatDoor

theorem er_nil (w : World) (R : Nat → Prop) : S3.ER w R [] (.slice none 0 0) := .mk [] none 0 (fun _ => .slice none 0 0) (by decide) (fun i e hi => by simp at hi) (fun i e hi => by simp at hi)
theorem numP_ok {s : Bytes} {n : Int} (h : N2.numParse s = some n) : S3.okI n := by
  have := (N2.numParse_some h).1
  unfold N2.okI at this
  unfold S3.okI; omega
theorem num_parse (t : Bytes) (w : World) (hG : N2.Glob w) :
    Calls Tryz.prog 91 #[.string (B t)] w fun e w' => e = .returned (.tuple #[N2.encN (N2.numParse t), N2.encE 7 (N2.numParse t)]) ∧ Below w.heap.size w w' := N2.parse_calls (B t) w hG

set_option maxRecDepth 100000 in
set_option maxHeartbeats 1000000 in
theorem rnumber_bad {w : World} {l : TL} {v : Value} {b : RB} {i d : Nat} (h : Rd w l v b i d) (a1 a2 : Int) (hP : N2.encN (N2.numParse (tkAt l i).2) = .int .i64 a1 ∧ N2.encE 7 (N2.numParse (tkAt l i).2) = .int .i64 a2) (hbad : a2 ≠ 0 ∨ (a2 = 0 ∧ a1 < 0)) :
    Calls Tryz.prog 86 #[rp b] w (Post w l v b d (.bad i 7)) := by
  have T := Lib.hid (fun o => token_calls (h.al o))
  have NP := fun W hW => num_parse (tkAt l i).2 W hW
  rw [hP.1, hP.2] at NP
  have NP := Lib.hid NP
  have H := Lib.hid h
  have pH := H.out.ptr
  have hbw0 := h.lt
  generalize tkAt l i = t at *
  clear hP h
  rcases hbad with hb | ⟨rfl, hb⟩
  · have q : (a2 == 0) = false := beq_eq_false_iff_ne.2 hb
    go_enter Tryz.func86, Tryz.ntmps86
    go_wp2_with fail
    refine (T.out _).mono ?_
    rintro e w1 ⟨⟨a, rfl⟩, hb1⟩
    have HB1 := Lib.hid (after (S3.bal w _) hb1)
    clear hb1 T
    have hrt := run_tx
    go_wp2_with fail
    refine (NP.out _ (H.out.bel HB1.out).g.n).mono ?_
    rintro e w2 ⟨rfl, hb2⟩
    have HB2 := Lib.hid (after HB1.out hb2)
    have pH2 := (H.out.bel HB2.out).ptr
    clear hb2 NP
    go_wp2_with fail
    refine (need_no (H.out.bel HB2.out)).mono ?_
    rintro e w3 ⟨rfl, rfl⟩
    go_wp2_with fail
    exact ⟨rfl, rfl, Fr.of HB2.out⟩
  · have q : ¬ (0 : Int) ≤ a1 := by omega
    go_enter Tryz.func86, Tryz.ntmps86
    go_wp2_with fail
    refine (T.out _).mono ?_
    rintro e w1 ⟨⟨a, rfl⟩, hb1⟩
    have HB1 := Lib.hid (after (S3.bal w _) hb1)
    clear hb1 T
    have hrt := run_tx
    go_wp2_with fail
    refine (NP.out _ (H.out.bel HB1.out).g.n).mono ?_
    rintro e w2 ⟨rfl, hb2⟩
    have HB2 := Lib.hid (after HB1.out hb2)
    have pH2 := (H.out.bel HB2.out).ptr
    clear hb2 NP
    go_wp2_with fail
    rw [show decide (0 ≤ a1) = false from decide_eq_false (by omega)]
    refine (need_no (H.out.bel HB2.out)).mono ?_
    rintro e w3 ⟨rfl, rfl⟩
    go_wp2_with fail
    exact ⟨rfl, rfl, Fr.of HB2.out⟩
set_option maxRecDepth 100000 in
set_option maxHeartbeats 1000000 in
theorem rnumber_ok {w : World} {l : TL} {v : Value} {b : RB} {i d : Nat} (h : Rd w l v b i d) (hi : i < l.length) (n : Int) (hn : 0 ≤ n) (hP : N2.numParse (tkAt l i).2 = some n) :
    Calls Tryz.prog 86 #[rp b] w (Post w l v b d (.ok ⟨1, 0, n, [], []⟩ (i + 1))) := by
  have hok := numP_ok hP
  have T := Lib.hid (fun o => token_calls (h.al o))
  have NP := fun W hW => num_parse (tkAt l i).2 W hW
  rw [hP] at NP
  have NP := Lib.hid NP
  have H := Lib.hid h
  have pH := H.out.ptr
  have hbw0 := h.lt
  have Q := Lib.hid (fun a0 a1 a2 a3 a4 => R5.new w a0 a1 a2 a3 a4)
  have hbw := h.lt
  generalize tkAt l i = t at *
  clear hP h
  go_enter Tryz.func86, Tryz.ntmps86
  go_wp2_with fail
  refine (T.out _).mono ?_
  rintro e w1 ⟨⟨a, rfl⟩, hb1⟩
  have HB1 := Lib.hid (after (S3.bal w _) hb1)
  have Q1 := Lib.hid ((Q.out _ _ _ _ _).bel hb1)
  clear hb1 T
  have hrt := run_tx
  go_wp2_with fail
  refine (NP.out _ (H.out.bel HB1.out).g.n).mono ?_
  rintro e w2 ⟨rfl, hb2⟩
  have HB2 := Lib.hid (after HB1.out hb2)
  have Q2 := Lib.hid (Q1.out.bel hb2)
  have pH2 := (H.out.bel HB2.out).ptr
  clear hb2 NP
  simp only [N2.encN, N2.encE]
  go_wp2_with fail
  refine (need_yes b.c _).mono ?_
  rintro e w3 ⟨rfl, rfl⟩
  go_wp2_with fail
  refine (leaf_calls (H.out.bel HB2.out) hi ⟨1, 0, n, [], []⟩ none 0 0).mono ?_
  rintro e w4 ⟨rfl, hr, hf⟩
  have hq2 := Q2.out.lt
  obtain ⟨z0, z1, z2, z3, z4, r0, r1, r2, r3, r4, y0, y1, y2, y3, y4⟩ := (Q2.out.fr (by omega) hf).facts
  have HR := Lib.hid hr
  have pHR := HR.out.ptr
  have HF := Lib.hid hf
  clear hr hf
  go_wp2_with fail
  exact bodyPost_ret (v := S3.eV ⟨1, 0, n, [], []⟩ (.slice none 0 0)) (by simp [results, Tryz.results86, go_sem, r0, r1, r2, r3, r4]) rfl (post_end (wc := w2) (Nat.le_refl _) hq2 hbw (Fr.of HB2.out) (okE_leaf (by decide) hok (by simp)) (er_nil _ _) HR.out HF.out _ _ _ _ _)
theorem rnumber_calls {w : World} {l : TL} {v : Value} {b : RB} {i d : Nat} (h : Rd w l v b i d) (hi : i < l.length) :
    Calls Tryz.prog 86 #[rp b] w (Post w l v b d (numR l i)) := by
  unfold numR numT
  cases hP : N2.numParse (tkAt l i).2 with
  | none => exact rnumber_bad h 0 7 (by rw [hP]; exact ⟨rfl, rfl⟩) (.inl (by decide))
  | some n =>
    simp only
    by_cases hn : 0 ≤ n
    · rw [if_pos hn]; exact rnumber_ok h hi n hn hP
    · rw [if_neg hn]; exact rnumber_bad h n 0 (by rw [hP]; exact ⟨rfl, rfl⟩) (.inr ⟨rfl, by omega⟩)

set_option maxRecDepth 100000 in
set_option maxHeartbeats 1000000 in
theorem rlength_calls {w : World} {l : TL} {v : Value} {b : RB} {i d : Nat} (h : Rd w l v b i d) (hk : (tkAt l i).1 = 3) (hne : (tkAt l i).2 = [108, 101, 110]) :
    Calls Tryz.prog 94 #[rp b] w (Post w l v b d (lenR l i)) := by
  have hi := kind_lt (l := l) (i := i) (by omega)
  have hkw : kwAt l i = [108, 101, 110] := by rw [kwAt_is hk, hne]
  have H := Lib.hid h
  have pH := H.out.ptr
  have Q := Lib.hid (fun a0 a1 a2 a3 a4 => R5.new w a0 a1 a2 a3 a4)
  have hle := h.len
  have hbw := h.lt
  have hnl := h.text (i + 2)
  clear h hk hne
  unfold lenR
  by_cases hp : sgAt l (i + 1) = [40]
  · rw [if_pos hp]
    have HP := Lib.hid hp
    by_cases hn : nmTok (tkAt l (i + 2)) = true
    · rw [if_pos hn]
      have HN := Lib.hid hn
      by_cases hc : sgAt l (i + 3) = [41]
      · rw [if_pos hc]
        have HC := Lib.hid hc
        clear hp hn hc
        go_enter Tryz.func94, Tryz.ntmps94
        go_wp2_with fail
        have HB0 := Lib.hid (S3.bal w (.cells #[.int .i64 0, .int .i64 0, .int .i64 0, .string ⟨#[]⟩, .slice none 0 0] 67))
        have H0 := Lib.hid (H.out.al (.cells #[.int .i64 0, .int .i64 0, .int .i64 0, .string ⟨#[]⟩, .slice none 0 0] 67))
        have pH0 := H0.out.ptr
        have Q0 := Lib.hid (Q.out (.int .i64 0) (.int .i64 0) (.int .i64 0) (.string ⟨#[]⟩) (.slice none 0 0))
        have hz0 : (w.alloc (.cells #[.int .i64 0, .int .i64 0, .int .i64 0, .string ⟨#[]⟩, .slice none 0 0] 67)).heap.size = w.heap.size + 1 := S3.sz1 _ _
        have KY := Lib.hid (fun n os => rkeyw_calls (H0.out.rg n os))
        have pR0 := fun n os => cell_regrown pH0 n os
        rw [hkw] at KY
        generalize w.alloc (.cells #[.int .i64 0, .int .i64 0, .int .i64 0, .string ⟨#[]⟩, .slice none 0 0] 67) = w0 at *
        refine wp_region_quiet_below (by kernel_rfl) (by kernel_rfl) ?_
        repeat (first | go_big_quiet_step (first | with_reducible exact Calls.regrown_of (KY.out _ _) | with_reducible exact Calls.regrown_of (need_yesB _ _)) | quiet_step (first | with_reducible exact Calls.regrown_of (KY.out _ _) | with_reducible exact Calls.regrown_of (need_yesB _ _)))
        refine wpQuiet_nil ?_
        intro _ hw'
        obtain ⟨⟨dq, osq⟩, hw''⟩ := hw'
        subst hw''
        have HB1 := Lib.hid (after HB0.out (below_regrown w0 dq osq))
        have H1 := Lib.hid (H0.out.rg dq osq)
        have pH1 := H1.out.ptr
        have Q1 := Lib.hid (Q0.out.bel (below_regrown w0 dq osq))
        clear KY H0 Q0 HB0 pH0 pR0
        generalize grow (redrawn w0 dq) osq = w1 at *
        obtain ⟨p0, c0, c1, c2, f1, f2⟩ := H1.out.cells
        go_wp2_with fail
        have H2 := Lib.hid (H1.out.inc1 hi)
        have pH2 := H2.out.ptr
        have F2 := Lib.hid ((Fr.of (b := b) HB1.out).setA (.int .i64 ((i : Int) + 1)))
        have Q2 := Lib.hid (Q1.out.fr (b := b) (by omega) ((Fr.refl b w1).setA (.int .i64 ((i : Int) + 1))))
        clear H1 Q1 c0 c1 c2 f1 f2
        generalize w1.setCell ⟨b.c, 1, none⟩ (.int .i64 ((i : Int) + 1)) = w2 at *
        refine (pass_yes H2.out HP.out (by simp)).mono ?_
        rintro e w3 ⟨rfl, hr, hf⟩
        have H3 := Lib.hid hr
        have pH3 := H3.out.ptr
        have F3 := Lib.hid (F2.out.trans hf)
        have Q3 := Lib.hid (Q2.out.fr (by omega) hf)
        clear hr hf H2
        go_wp2_with fail
        refine (rname_yes H3.out HN.out).mono ?_
        rintro e w4 ⟨rfl, hr, hf⟩
        have H4 := Lib.hid hr
        have pH4 := H4.out.ptr
        have F4 := Lib.hid (F3.out.trans hf)
        have Q4 := Lib.hid (Q3.out.fr (by omega) hf)
        clear hr hf H3
        go_wp2_with fail
        refine (pass_yes H4.out HC.out (by simp)).mono ?_
        rintro e w5 ⟨rfl, hr, hf⟩
        have H5 := Lib.hid hr
        have pH5 := H5.out.ptr
        have F5 := Lib.hid (F4.out.trans hf)
        have Q5 := Lib.hid (Q4.out.fr (by omega) hf)
        clear hr hf H4
        have H5' := H5
        have hq5 := Q5.out.lt
        obtain ⟨z0, z1, z2, z3, z4, r0, r1, r2, r3, r4, y0, y1, y2, y3, y4⟩ := Q5.out.facts
        generalize (tkAt l (i + 2)).2 = s at *
        go_wp2_with fail
        exact bodyPost_ret (v := S3.eV ⟨7, 0, 0, s, []⟩ (.slice none 0 0)) (by simp [results, Tryz.results94, go_sem, r0, r1, r2, r3, r4]) rfl (post_end (wc := w5) (Nat.le_refl _) hq5 hbw F5.out (okE_leaf (by decide) (okI_small (by decide) (by decide)) hnl) (er_nil _ _) H5.out (Fr.refl b w5) _ _ _ _ _)
      · rw [if_neg hc]
        have HC := Lib.hid hc
        clear hp hn hc
        go_enter Tryz.func94, Tryz.ntmps94
        go_wp2_with fail
        have HB0 := Lib.hid (S3.bal w (.cells #[.int .i64 0, .int .i64 0, .int .i64 0, .string ⟨#[]⟩, .slice none 0 0] 67))
        have H0 := Lib.hid (H.out.al (.cells #[.int .i64 0, .int .i64 0, .int .i64 0, .string ⟨#[]⟩, .slice none 0 0] 67))
        have pH0 := H0.out.ptr
        have Q0 := Lib.hid (Q.out (.int .i64 0) (.int .i64 0) (.int .i64 0) (.string ⟨#[]⟩) (.slice none 0 0))
        have hz0 : (w.alloc (.cells #[.int .i64 0, .int .i64 0, .int .i64 0, .string ⟨#[]⟩, .slice none 0 0] 67)).heap.size = w.heap.size + 1 := S3.sz1 _ _
        have KY := Lib.hid (fun n os => rkeyw_calls (H0.out.rg n os))
        have pR0 := fun n os => cell_regrown pH0 n os
        rw [hkw] at KY
        generalize w.alloc (.cells #[.int .i64 0, .int .i64 0, .int .i64 0, .string ⟨#[]⟩, .slice none 0 0] 67) = w0 at *
        refine wp_region_quiet_below (by kernel_rfl) (by kernel_rfl) ?_
        repeat (first | go_big_quiet_step (first | with_reducible exact Calls.regrown_of (KY.out _ _) | with_reducible exact Calls.regrown_of (need_yesB _ _)) | quiet_step (first | with_reducible exact Calls.regrown_of (KY.out _ _) | with_reducible exact Calls.regrown_of (need_yesB _ _)))
        refine wpQuiet_nil ?_
        intro _ hw'
        obtain ⟨⟨dq, osq⟩, hw''⟩ := hw'
        subst hw''
        have HB1 := Lib.hid (after HB0.out (below_regrown w0 dq osq))
        have H1 := Lib.hid (H0.out.rg dq osq)
        have pH1 := H1.out.ptr
        have Q1 := Lib.hid (Q0.out.bel (below_regrown w0 dq osq))
        clear KY H0 Q0 HB0 pH0 pR0
        generalize grow (redrawn w0 dq) osq = w1 at *
        obtain ⟨p0, c0, c1, c2, f1, f2⟩ := H1.out.cells
        go_wp2_with fail
        have H2 := Lib.hid (H1.out.inc1 hi)
        have pH2 := H2.out.ptr
        have F2 := Lib.hid ((Fr.of (b := b) HB1.out).setA (.int .i64 ((i : Int) + 1)))
        have Q2 := Lib.hid (Q1.out.fr (b := b) (by omega) ((Fr.refl b w1).setA (.int .i64 ((i : Int) + 1))))
        clear H1 Q1 c0 c1 c2 f1 f2
        generalize w1.setCell ⟨b.c, 1, none⟩ (.int .i64 ((i : Int) + 1)) = w2 at *
        refine (pass_yes H2.out HP.out (by simp)).mono ?_
        rintro e w3 ⟨rfl, hr, hf⟩
        have H3 := Lib.hid hr
        have pH3 := H3.out.ptr
        have F3 := Lib.hid (F2.out.trans hf)
        have Q3 := Lib.hid (Q2.out.fr (by omega) hf)
        clear hr hf H2
        go_wp2_with fail
        refine (rname_yes H3.out HN.out).mono ?_
        rintro e w4 ⟨rfl, hr, hf⟩
        have H4 := Lib.hid hr
        have pH4 := H4.out.ptr
        have F4 := Lib.hid (F3.out.trans hf)
        have Q4 := Lib.hid (Q3.out.fr (by omega) hf)
        clear hr hf H3
        go_wp2_with fail
        refine (pass_no H4.out HC.out).mono ?_
        rintro e w5 ⟨rfl, hf⟩
        have F5 := Lib.hid (F4.out.trans hf)
        clear hf H4
        go_wp2_with fail
        exact ⟨rfl, rfl, F5.out⟩
    · rw [if_neg hn]
      simp only [Bool.not_eq_true] at hn
      have HN := Lib.hid hn
      clear hp hn
      go_enter Tryz.func94, Tryz.ntmps94
      go_wp2_with fail
      have HB0 := Lib.hid (S3.bal w (.cells #[.int .i64 0, .int .i64 0, .int .i64 0, .string ⟨#[]⟩, .slice none 0 0] 67))
      have H0 := Lib.hid (H.out.al (.cells #[.int .i64 0, .int .i64 0, .int .i64 0, .string ⟨#[]⟩, .slice none 0 0] 67))
      have pH0 := H0.out.ptr
      have Q0 := Lib.hid (Q.out (.int .i64 0) (.int .i64 0) (.int .i64 0) (.string ⟨#[]⟩) (.slice none 0 0))
      have hz0 : (w.alloc (.cells #[.int .i64 0, .int .i64 0, .int .i64 0, .string ⟨#[]⟩, .slice none 0 0] 67)).heap.size = w.heap.size + 1 := S3.sz1 _ _
      have KY := Lib.hid (fun n os => rkeyw_calls (H0.out.rg n os))
      have pR0 := fun n os => cell_regrown pH0 n os
      rw [hkw] at KY
      generalize w.alloc (.cells #[.int .i64 0, .int .i64 0, .int .i64 0, .string ⟨#[]⟩, .slice none 0 0] 67) = w0 at *
      refine wp_region_quiet_below (by kernel_rfl) (by kernel_rfl) ?_
      repeat (first | go_big_quiet_step (first | with_reducible exact Calls.regrown_of (KY.out _ _) | with_reducible exact Calls.regrown_of (need_yesB _ _)) | quiet_step (first | with_reducible exact Calls.regrown_of (KY.out _ _) | with_reducible exact Calls.regrown_of (need_yesB _ _)))
      refine wpQuiet_nil ?_
      intro _ hw'
      obtain ⟨⟨dq, osq⟩, hw''⟩ := hw'
      subst hw''
      have HB1 := Lib.hid (after HB0.out (below_regrown w0 dq osq))
      have H1 := Lib.hid (H0.out.rg dq osq)
      have pH1 := H1.out.ptr
      have Q1 := Lib.hid (Q0.out.bel (below_regrown w0 dq osq))
      clear KY H0 Q0 HB0 pH0 pR0
      generalize grow (redrawn w0 dq) osq = w1 at *
      obtain ⟨p0, c0, c1, c2, f1, f2⟩ := H1.out.cells
      go_wp2_with fail
      have H2 := Lib.hid (H1.out.inc1 hi)
      have pH2 := H2.out.ptr
      have F2 := Lib.hid ((Fr.of (b := b) HB1.out).setA (.int .i64 ((i : Int) + 1)))
      have Q2 := Lib.hid (Q1.out.fr (b := b) (by omega) ((Fr.refl b w1).setA (.int .i64 ((i : Int) + 1))))
      clear H1 Q1 c0 c1 c2 f1 f2
      generalize w1.setCell ⟨b.c, 1, none⟩ (.int .i64 ((i : Int) + 1)) = w2 at *
      refine (pass_yes H2.out HP.out (by simp)).mono ?_
      rintro e w3 ⟨rfl, hr, hf⟩
      have H3 := Lib.hid hr
      have pH3 := H3.out.ptr
      have F3 := Lib.hid (F2.out.trans hf)
      have Q3 := Lib.hid (Q2.out.fr (by omega) hf)
      clear hr hf H2
      go_wp2_with fail
      refine (rname_no H3.out HN.out).mono ?_
      rintro e w5 ⟨rfl, hf⟩
      have F5 := Lib.hid (F3.out.trans hf)
      clear hf H3
      go_wp2_with fail
      exact ⟨rfl, rfl, F5.out⟩
  · rw [if_neg hp]
    have HP := Lib.hid hp
    clear hp
    go_enter Tryz.func94, Tryz.ntmps94
    go_wp2_with fail
    have HB0 := Lib.hid (S3.bal w (.cells #[.int .i64 0, .int .i64 0, .int .i64 0, .string ⟨#[]⟩, .slice none 0 0] 67))
    have H0 := Lib.hid (H.out.al (.cells #[.int .i64 0, .int .i64 0, .int .i64 0, .string ⟨#[]⟩, .slice none 0 0] 67))
    have pH0 := H0.out.ptr
    have Q0 := Lib.hid (Q.out (.int .i64 0) (.int .i64 0) (.int .i64 0) (.string ⟨#[]⟩) (.slice none 0 0))
    have hz0 : (w.alloc (.cells #[.int .i64 0, .int .i64 0, .int .i64 0, .string ⟨#[]⟩, .slice none 0 0] 67)).heap.size = w.heap.size + 1 := S3.sz1 _ _
    have KY := Lib.hid (fun n os => rkeyw_calls (H0.out.rg n os))
    have pR0 := fun n os => cell_regrown pH0 n os
    rw [hkw] at KY
    generalize w.alloc (.cells #[.int .i64 0, .int .i64 0, .int .i64 0, .string ⟨#[]⟩, .slice none 0 0] 67) = w0 at *
    refine wp_region_quiet_below (by kernel_rfl) (by kernel_rfl) ?_
    repeat (first | go_big_quiet_step (first | with_reducible exact Calls.regrown_of (KY.out _ _) | with_reducible exact Calls.regrown_of (need_yesB _ _)) | quiet_step (first | with_reducible exact Calls.regrown_of (KY.out _ _) | with_reducible exact Calls.regrown_of (need_yesB _ _)))
    refine wpQuiet_nil ?_
    intro _ hw'
    obtain ⟨⟨dq, osq⟩, hw''⟩ := hw'
    subst hw''
    have HB1 := Lib.hid (after HB0.out (below_regrown w0 dq osq))
    have H1 := Lib.hid (H0.out.rg dq osq)
    have pH1 := H1.out.ptr
    have Q1 := Lib.hid (Q0.out.bel (below_regrown w0 dq osq))
    clear KY H0 Q0 HB0 pH0 pR0
    generalize grow (redrawn w0 dq) osq = w1 at *
    obtain ⟨p0, c0, c1, c2, f1, f2⟩ := H1.out.cells
    go_wp2_with fail
    have H2 := Lib.hid (H1.out.inc1 hi)
    have pH2 := H2.out.ptr
    have F2 := Lib.hid ((Fr.of (b := b) HB1.out).setA (.int .i64 ((i : Int) + 1)))
    have Q2 := Lib.hid (Q1.out.fr (b := b) (by omega) ((Fr.refl b w1).setA (.int .i64 ((i : Int) + 1))))
    clear H1 Q1 c0 c1 c2 f1 f2
    generalize w1.setCell ⟨b.c, 1, none⟩ (.int .i64 ((i : Int) + 1)) = w2 at *
    refine (pass_no H2.out HP.out).mono ?_
    rintro e w5 ⟨rfl, hf⟩
    have F5 := Lib.hid (F2.out.trans hf)
    clear hf H2
    go_wp2_with fail
    exact ⟨rfl, rfl, F5.out⟩

set_option maxRecDepth 100000 in
set_option maxHeartbeats 1000000 in
theorem rlength_no {w : World} {l : TL} {v : Value} {b : RB} {i d : Nat} (h : Rd w l v b i d) (hk : (tkAt l i).1 = 3) (hne : (tkAt l i).2 ≠ [108, 101, 110]) :
    Calls Tryz.prog 94 #[rp b] w (Post w l v b d (.bad i 7)) := by
  have T := Lib.hid (fun W (hW : Rd W l v b i d) => rkeyw_calls hW)
  have H := Lib.hid h
  have hbw := h.lt
  have pH := H.out.ptr
  have q : (kwAt l i == [108, 101, 110]) = false := by rw [kwAt_is hk]; exact beq_eq_false_iff_ne.2 hne
  generalize kwAt l i = t at *
  clear h hne hk
  go_enter Tryz.func94, Tryz.ntmps94
  go_wp2_with fail
  go_region_with (first
    | (go_at_call 32; refine (T.out _ (by exact (H.out.al _).dr)).mono ?_; rintro e w1 ⟨rfl, hb1⟩; have HB1 := Lib.hid (after (S3.bal w _).drew hb1); have H1 := Lib.hid ((H.out.al _).dr.bel hb1); have pH1 := H1.out.ptr; clear hb1)
    | (go_at_call 39; refine (need_no H1.out).mono ?_; rintro e w3 ⟨rfl, rfl⟩; go_simp; refine fake_any (by exact ⟨rfl, rfl, Fr.of HB1.out⟩) ?_))
  all_goals exact trivial

set_option maxRecDepth 100000 in
set_option maxHeartbeats 1000000 in
theorem rkey_true {w : World} {l : TL} {v : Value} {b : RB} {i d : Nat} (h : Rd w l v b i d) (hk : (tkAt l i).1 = 3) (hi : i < l.length) (ht : (tkAt l i).2 = [116, 114, 117, 101]) :
    Calls Tryz.prog 88 #[rp b] w (Post w l v b d (.ok ⟨2, 0, 1, [], []⟩ (i + 1))) := by
  have T := fun o => rkeyw_calls (h.al o)
  rw [kwAt_is hk, ht] at T
  have T := Lib.hid T
  have H := Lib.hid h
  have pH := H.out.ptr
  have Q := Lib.hid (fun a0 a1 a2 a3 a4 => R5.new w a0 a1 a2 a3 a4)
  have hle := h.len
  have hbw := h.lt
  clear h ht hk
  go_enter Tryz.func88, Tryz.ntmps88
  go_wp2_with fail
  refine (T.out _).mono ?_
  rintro e w1 ⟨rfl, hb1⟩
  have HB1 := Lib.hid (after (S3.bal w _) hb1)
  have H1 := Lib.hid ((H.out.al _).bel hb1)
  have pH1 := H1.out.ptr
  have Q1 := Lib.hid ((Q.out _ _ _ _ _).bel hb1)
  clear hb1 T
  go_wp2_with fail
  refine (leaf_calls H1.out hi ⟨2, 0, 1, [], []⟩ none 0 0).mono ?_
  rintro e w4 ⟨rfl, hr, hf⟩
  have hq2 := Q1.out.lt
  obtain ⟨z0, z1, z2, z3, z4, r0, r1, r2, r3, r4, y0, y1, y2, y3, y4⟩ := (Q1.out.fr (by omega) hf).facts
  have HR := Lib.hid hr
  have pHR := HR.out.ptr
  have HF := Lib.hid hf
  clear hr hf
  go_wp2_with fail
  exact bodyPost_ret (v := S3.eV ⟨2, 0, 1, [], []⟩ (.slice none 0 0)) (by simp [results, Tryz.results88, go_sem, r0, r1, r2, r3, r4]) rfl (post_end (wc := w1) (Nat.le_refl _) hq2 hbw (Fr.of HB1.out) (okE_leaf (by decide) (okI_small (by decide) (by decide)) (by simp)) (er_nil _ _) HR.out HF.out _ _ _ _ _)
set_option maxRecDepth 100000 in
set_option maxHeartbeats 1000000 in
theorem rkey_false {w : World} {l : TL} {v : Value} {b : RB} {i d : Nat} (h : Rd w l v b i d) (hk : (tkAt l i).1 = 3) (hi : i < l.length) (ht : (tkAt l i).2 = [102, 97, 108, 115, 101]) :
    Calls Tryz.prog 88 #[rp b] w (Post w l v b d (.ok ⟨2, 0, 0, [], []⟩ (i + 1))) := by
  have T := fun o => rkeyw_calls (h.al o)
  rw [kwAt_is hk, ht] at T
  have T := Lib.hid T
  have H := Lib.hid h
  have pH := H.out.ptr
  have Q := Lib.hid (fun a0 a1 a2 a3 a4 => R5.new w a0 a1 a2 a3 a4)
  have hle := h.len
  have hbw := h.lt
  clear h ht hk
  go_enter Tryz.func88, Tryz.ntmps88
  go_wp2_with fail
  refine (T.out _).mono ?_
  rintro e w1 ⟨rfl, hb1⟩
  have HB1 := Lib.hid (after (S3.bal w _) hb1)
  have H1 := Lib.hid ((H.out.al _).bel hb1)
  have pH1 := H1.out.ptr
  have Q1 := Lib.hid ((Q.out _ _ _ _ _).bel hb1)
  clear hb1 T
  go_wp2_with fail
  refine (leaf_calls H1.out hi ⟨2, 0, 0, [], []⟩ none 0 0).mono ?_
  rintro e w4 ⟨rfl, hr, hf⟩
  have hq2 := Q1.out.lt
  obtain ⟨z0, z1, z2, z3, z4, r0, r1, r2, r3, r4, y0, y1, y2, y3, y4⟩ := (Q1.out.fr (by omega) hf).facts
  have HR := Lib.hid hr
  have pHR := HR.out.ptr
  have HF := Lib.hid hf
  clear hr hf
  go_wp2_with fail
  exact bodyPost_ret (v := S3.eV ⟨2, 0, 0, [], []⟩ (.slice none 0 0)) (by simp [results, Tryz.results88, go_sem, r0, r1, r2, r3, r4]) rfl (post_end (wc := w1) (Nat.le_refl _) hq2 hbw (Fr.of HB1.out) (okE_leaf (by decide) (okI_small (by decide) (by decide)) (by simp)) (er_nil _ _) HR.out HF.out _ _ _ _ _)
set_option maxRecDepth 100000 in
set_option maxHeartbeats 1000000 in
theorem rkey_other {w : World} {l : TL} {v : Value} {b : RB} {i d : Nat} (h : Rd w l v b i d) (hk : (tkAt l i).1 = 3) (h1 : (tkAt l i).2 ≠ [116, 114, 117, 101]) (h2 : (tkAt l i).2 ≠ [102, 97, 108, 115, 101]) (r : Res)
    (C : ∀ W, Rd W l v b i d → Calls Tryz.prog 94 #[rp b] W (Post W l v b d r)) :
    Calls Tryz.prog 88 #[rp b] w (Post w l v b d r) := by
  have T := Lib.hid (fun o => rkeyw_calls (h.al o))
  have H := Lib.hid h
  have pH := H.out.ptr
  have Q := Lib.hid (fun a0 a1 a2 a3 a4 => R5.new w a0 a1 a2 a3 a4)
  have hbw := h.lt
  have C := Lib.hid C
  have q1 : (kwAt l i == [116, 114, 117, 101]) = false := by rw [kwAt_is hk]; exact beq_eq_false_iff_ne.2 h1
  have q2 : (kwAt l i == [102, 97, 108, 115, 101]) = false := by rw [kwAt_is hk]; exact beq_eq_false_iff_ne.2 h2
  generalize kwAt l i = t at *
  clear h h1 h2 hk
  go_enter Tryz.func88, Tryz.ntmps88
  go_wp2_with fail
  refine (T.out _).mono ?_
  rintro e w1 ⟨rfl, hb1⟩
  have HB1 := Lib.hid (after (S3.bal w _) hb1)
  have H1 := Lib.hid ((H.out.al _).bel hb1)
  have pH1 := H1.out.ptr
  have Q1 := Lib.hid ((Q.out _ _ _ _ _).bel hb1)
  clear hb1 T
  go_wp2_with fail
  refine (C.out _ H1.out).mono ?_
  intro E w4 hP
  cases r with
  | bad j c =>
    obtain ⟨rfl, hf⟩ := hP
    have HF := Lib.hid hf
    clear hf
    go_wp2_with fail
    exact ⟨rfl, rfl, (Fr.of HB1.out).trans HF.out⟩
  | ok e n =>
    obtain ⟨A, k, c, rfl, ho, hE, hr, hf⟩ := hP
    have hq2 := Q1.out.lt
    obtain ⟨z0, z1, z2, z3, z4, r0, r1, r2, r3, r4, y0, y1, y2, y3, y4⟩ := (Q1.out.fr (by omega) hf).facts
    have HR := Lib.hid hr
    have pHR := HR.out.ptr
    have HF := Lib.hid hf
    have HE := Lib.hid hE
    have HO := Lib.hid ho
    clear hr hf hE ho
    go_wp2_with fail
    exact bodyPost_ret (v := S3.eV e (.slice A k c)) (by simp [results, Tryz.results88, go_sem, r0, r1, r2, r3, r4]) rfl (post_end (wc := w1) (Nat.le_refl _) hq2 hbw (Fr.of HB1.out) HO.out HE.out HR.out HF.out _ _ _ _ _)
theorem rkeyword_calls {w : World} {l : TL} {v : Value} {b : RB} {i d : Nat} (h : Rd w l v b i d) (hk : (tkAt l i).1 = 3) :
    Calls Tryz.prog 88 #[rp b] w (Post w l v b d (keyR l i)) := by
  have hi := kind_lt (l := l) (i := i) (by omega)
  unfold keyR
  by_cases h1 : (tkAt l i).2 = [116, 114, 117, 101]
  · rw [if_pos h1]; exact rkey_true h hk hi h1
  rw [if_neg h1]
  by_cases h2 : (tkAt l i).2 = [102, 97, 108, 115, 101]
  · rw [if_pos h2]; exact rkey_false h hk hi h2
  rw [if_neg h2]
  by_cases h3 : (tkAt l i).2 = [108, 101, 110]
  · rw [if_pos h3]; exact rkey_other h hk h1 h2 _ fun W hW => rlength_calls hW hk h3
  · rw [if_neg h3]; exact rkey_other h hk h1 h2 _ fun W hW => rlength_no hW hk h3
end Go.Proofs.YtipepljmfgjbpaaGreatDoor.E5
