/-
  The document's own reading of expressions: operand: contracts. Written by gen5_ref.py.
-/
import Derived.Test.YtlhifbckmknijaaGreatDoorERef2
import Derived.Test.YtlhifbckmknijaaGreatDoorNRefParse
import Derived.BigRegion
import Derived.Deep.RegionWith
import Derived.Deep.RegionHeld3
namespace Go.Proofs.YtlhifbckmknijaaGreatDoor.E5
open Go Go.RowKit Go.Proofs.YtlhifbckmknijaaGreatDoor

abbrev tO (t : Int × Bytes) (a : Int) : Obj := .cells #[.int .i64 t.1, .string (B t.2), .int .i64 a] 89
/-- A token's box. -/
structure TBx (W : World) (b : Nat) (t : Int × Bytes) (a : Int) : Prop where
  c0 : W.cell? ⟨b, 0, none⟩ = some (.int .i64 t.1)
  c1 : W.cell? ⟨b, 1, none⟩ = some (.string (B t.2))
  c2 : W.cell? ⟨b, 2, none⟩ = some (.int .i64 a)
theorem TBx.new (w : World) (t : Int × Bytes) (a : Int) : TBx (w.alloc (tO t a)) w.heap.size t a := ⟨S3.newCell w _ _ 0 _ rfl, S3.newCell w _ _ 1 _ rfl, S3.newCell w _ _ 2 _ rfl⟩
theorem TBx.keep {w w' : World} {b M : Nat} {t : Int × Bytes} {a : Int} (h : TBx w b t a) (hb : Below M w w') (hl : b < M) : TBx w' b t a :=
  ⟨(hb.cell (p := ⟨b, 0, none⟩) hl).trans h.c0, (hb.cell (p := ⟨b, 1, none⟩) hl).trans h.c1, (hb.cell (p := ⟨b, 2, none⟩) hl).trans h.c2⟩
theorem kw_no {l : TL} {i : Nat} {s : Bytes} (h : (tkAt l i).1 ≠ 3 ∨ (tkAt l i).2 ≠ s) : decide (tkAt l i = (3, s)) = false := decide_eq_false fun e => by
  rw [e] at h
  rcases h with h | h
  · exact h rfl
  · exact h rfl
theorem kw_yes {l : TL} {i : Nat} {s : Bytes} (h : (tkAt l i).1 = 3) (h2 : (tkAt l i).2 = s) : decide (tkAt l i = (3, s)) = true := decide_eq_true (Prod.ext h h2)
set_option maxRecDepth 100000 in
set_option maxHeartbeats 2000000 in
theorem rop_out {w : World} {l : TL} {v : Value} (hT : TokL w w.heap.size v l) (i : Nat) (hil : l.length ≤ i) (d : Nat) :
    Calls Tryz.prog 81 #[v, .int .i64 (i : Int), .int .i64 (d : Int)] w (PostP w (.bad l.length 7)) := by
  obtain ⟨A, c, rfl⟩ := hT.val
  have hge : (l.length : Int) ≤ (i : Int) := by omega
  clear hT
  go_enter Tryz.func81, Tryz.ntmps81
  try simp only [List.append_eq, List.cons_append, List.nil_append]
  go_wp2_with fail
  exact bodyPost_ret (v := .tuple #[S3.eV zE (.slice none 0 0), .int .i64 (l.length : Int), .int .i64 7]) (by simp [results, Tryz.results81, go_sem, zE]) rfl ⟨rfl, S3.bal w _⟩
set_option maxRecDepth 100000 in
set_option maxHeartbeats 2000000 in
theorem rop_numbad {w : World} {l : TL} {v : Value} (hT : TokL w w.heap.size v l) (_hll : l.length ≤ 1000000) (i : Nat) (hil : i < l.length) (d : Nat) (hk : (tkAt l i).1 = 2) (a1 a2 : Int) (hP : N2.encN (N2.numParse (tkAt l i).2) = .int .i64 a1 ∧ N2.encE 7 (N2.numParse (tkAt l i).2) = .int .i64 a2) (hbad : a2 ≠ 0 ∨ (a2 = 0 ∧ a1 < 0)) :
    Calls Tryz.prog 81 #[v, .int .i64 (i : Int), .int .i64 (d : Int)] w (PostP w (.bad i 7)) := by
  obtain ⟨A, c, rfl⟩ := hT.val
  obtain ⟨_, htl, tb, og, a, rfl, htb, t0, t1, t2⟩ := hT.at3 i hil
  have hge : ¬ (l.length : Int) ≤ (i : Int) := by omega
  have HT1 := Lib.hid (tokU (tokU hT (S3.bal w zO)) (S3.bal (w.alloc zO) (tO (tkAt l i) a)))
  have HB1 := Lib.hid (S3.bal (w.alloc zO) (tO (tkAt l i) a))
  have X1 := TBx.new (w.alloc zO) (tkAt l i) a
  rw [S3.sz1] at X1
  have HX1 := Lib.hid X1
  have Q := Lib.hid (fun a0 a1 a2 a3 a4 => R5.new w a0 a1 a2 a3 a4)
  have hw1 : ((w.alloc zO).alloc (tO (tkAt l i) a)).heap.size = w.heap.size + 1 + 1 := by rw [S3.sz1, S3.sz1]
  clear X1 hT
  have q2 : ((tkAt l i).1 == 2) = true := by rw [hk]; rfl
  have NP0 := fun W => N2.parse_ref (B (tkAt l i).2) (by rw [L4.B_size]; exact htl) W
  rw [show (B (tkAt l i).2).data.toList = (tkAt l i).2 from rfl] at NP0
  rw [hP.1, hP.2] at NP0
  have NP := Lib.hid NP0
  clear NP0
  go_enter Tryz.func81, Tryz.ntmps81
  try simp only [List.append_eq, List.cons_append, List.nil_append]
  go_wp2_with fail
  refine (NP.out _).mono ?_
  rintro E w8 ⟨rfl, rfl⟩
  go_wp2_with fail
  all_goals exact bodyPost_ret (v := .tuple #[S3.eV zE (.slice none 0 0), .int .i64 (i : Int), .int .i64 7]) (by simp [results, Tryz.results81, go_sem, zE]) rfl ⟨rfl, S3.bal2 w _ _⟩
set_option maxRecDepth 100000 in
set_option maxHeartbeats 2000000 in
theorem rop_num {w : World} {l : TL} {v : Value} (hT : TokL w w.heap.size v l) (_hll : l.length ≤ 1000000) (i : Nat) (hil : i < l.length) (d : Nat) (hk : (tkAt l i).1 = 2) (n : Int) (hn : 0 ≤ n) (hP : N2.numParse (tkAt l i).2 = some n) :
    Calls Tryz.prog 81 #[v, .int .i64 (i : Int), .int .i64 (d : Int)] w (PostP w (.ok ⟨1, 0, n, [], []⟩ (i + 1))) := by
  obtain ⟨A, c, rfl⟩ := hT.val
  obtain ⟨_, htl, tb, og, a, rfl, htb, t0, t1, t2⟩ := hT.at3 i hil
  have hge : ¬ (l.length : Int) ≤ (i : Int) := by omega
  have HT1 := Lib.hid (tokU (tokU hT (S3.bal w zO)) (S3.bal (w.alloc zO) (tO (tkAt l i) a)))
  have HB1 := Lib.hid (S3.bal (w.alloc zO) (tO (tkAt l i) a))
  have X1 := TBx.new (w.alloc zO) (tkAt l i) a
  rw [S3.sz1] at X1
  have HX1 := Lib.hid X1
  have Q := Lib.hid (fun a0 a1 a2 a3 a4 => R5.new w a0 a1 a2 a3 a4)
  have hw1 : ((w.alloc zO).alloc (tO (tkAt l i) a)).heap.size = w.heap.size + 1 + 1 := by rw [S3.sz1, S3.sz1]
  clear X1 hT
  have q2 : ((tkAt l i).1 == 2) = true := by rw [hk]; rfl
  have NP0 := fun W => N2.parse_ref (B (tkAt l i).2) (by rw [L4.B_size]; exact htl) W
  rw [show (B (tkAt l i).2).data.toList = (tkAt l i).2 from rfl] at NP0
  rw [hP, show N2.encN (some n) = .int .i64 n from rfl, show N2.encE 7 (some n) = .int .i64 0 from rfl] at NP0
  have HO := Lib.hid (okE_leaf (k := 1) (n := n) (s := []) (by decide) (numP_ok hP) (by decide))
  have hn0 : ¬ n < 0 := by omega
  have NP := Lib.hid NP0
  clear NP0
  go_enter Tryz.func81, Tryz.ntmps81
  try simp only [List.append_eq, List.cons_append, List.nil_append]
  go_wp2_with fail
  refine (NP.out _).mono ?_
  rintro E w8 ⟨rfl, rfl⟩
  go_wp2_with fail
  all_goals exact bodyPost_ret (v := .tuple #[S3.eV ⟨1, 0, n, [], []⟩ (.slice none 0 0), .int .i64 ((i : Int) + 1), .int .i64 0]) (by simp [results, Tryz.results81, go_sem]) rfl ⟨none, 0, 0, by rw [show ((i + 1 : Nat) : Int) = (i : Int) + 1 by omega], HO.out, er_nil _ _, S3.bal2 w _ _⟩
set_option maxRecDepth 100000 in
set_option maxHeartbeats 2000000 in
theorem rop_true {w : World} {l : TL} {v : Value} (hT : TokL w w.heap.size v l) (_hll : l.length ≤ 1000000) (i : Nat) (hil : i < l.length) (d : Nat) (K1 : decide (tkAt l i = (3, [116, 114, 117, 101])) = true) (hk : (tkAt l i).1 ≠ 2) :
    Calls Tryz.prog 81 #[v, .int .i64 (i : Int), .int .i64 (d : Int)] w (PostP w (.ok ⟨2, 0, 1, [], []⟩ (i + 1))) := by
  obtain ⟨A, c, rfl⟩ := hT.val
  obtain ⟨_, htl, tb, og, a, rfl, htb, t0, t1, t2⟩ := hT.at3 i hil
  have hge : ¬ (l.length : Int) ≤ (i : Int) := by omega
  have HT1 := Lib.hid (tokU (tokU hT (S3.bal w zO)) (S3.bal (w.alloc zO) (tO (tkAt l i) a)))
  have HB1 := Lib.hid (S3.bal (w.alloc zO) (tO (tkAt l i) a))
  have X1 := TBx.new (w.alloc zO) (tkAt l i) a
  rw [S3.sz1] at X1
  have HX1 := Lib.hid X1
  have Q := Lib.hid (fun a0 a1 a2 a3 a4 => R5.new w a0 a1 a2 a3 a4)
  have hw1 : ((w.alloc zO).alloc (tO (tkAt l i) a)).heap.size = w.heap.size + 1 + 1 := by rw [S3.sz1, S3.sz1]
  clear X1 hT
  have q2 : ((tkAt l i).1 == 2) = false := beq_eq_false_iff_ne.2 hk
  have HO := Lib.hid (okE_leaf (k := 2) (n := 1) (s := []) (by decide) (by unfold S3.okI; omega) (by decide))
  go_enter Tryz.func81, Tryz.ntmps81
  try simp only [List.append_eq, List.cons_append, List.nil_append]
  go_wp2_with fail
  refine (rkw_is HT1.out K1 (by omega)).mono ?_
  rintro E w2 ⟨rfl, hb⟩
  have HB2 := Lib.hid (after HB1.out hb)
  have HX2 := Lib.hid (HX1.out.keep hb (by rw [hw1]; omega))
  have HT2 := Lib.hid (tokU HT1.out hb)
  clear hb
  obtain ⟨z0, z1, z2, z3, z4, r0, r1, r2, r3, r4, y0, y1, y2, y3, y4⟩ := ((Q.out _ _ _ _ _).bel HB2.out).facts
  have hq1 := ((Q.out _ _ _ _ _).bel HB2.out).lt
  have HF := Lib.hid (parse_fin ⟨2, 0, 1, [], []⟩ none 0 0 HB2.out (er_nil _ _))
  go_wp2_with fail
  exact bodyPost_ret (v := .tuple #[S3.eV ⟨2, 0, 1, [], []⟩ (.slice none 0 0), .int .i64 ((i : Int) + 1), .int .i64 0]) (by simp [results, Tryz.results81, go_sem, r0, r1, r2, r3, r4]) rfl ⟨none, 0, 0, by rw [show ((i + 1 : Nat) : Int) = (i : Int) + 1 by omega], HO.out, HF.out.1, HF.out.2⟩
set_option maxRecDepth 100000 in
set_option maxHeartbeats 2000000 in
theorem rop_false {w : World} {l : TL} {v : Value} (hT : TokL w w.heap.size v l) (_hll : l.length ≤ 1000000) (i : Nat) (hil : i < l.length) (d : Nat) (K1 : decide (tkAt l i = (3, [116, 114, 117, 101])) = false) (K2 : decide (tkAt l i = (3, [102, 97, 108, 115, 101])) = true) (hk : (tkAt l i).1 ≠ 2) :
    Calls Tryz.prog 81 #[v, .int .i64 (i : Int), .int .i64 (d : Int)] w (PostP w (.ok ⟨2, 0, 0, [], []⟩ (i + 1))) := by
  obtain ⟨A, c, rfl⟩ := hT.val
  obtain ⟨_, htl, tb, og, a, rfl, htb, t0, t1, t2⟩ := hT.at3 i hil
  have hge : ¬ (l.length : Int) ≤ (i : Int) := by omega
  have HT1 := Lib.hid (tokU (tokU hT (S3.bal w zO)) (S3.bal (w.alloc zO) (tO (tkAt l i) a)))
  have HB1 := Lib.hid (S3.bal (w.alloc zO) (tO (tkAt l i) a))
  have X1 := TBx.new (w.alloc zO) (tkAt l i) a
  rw [S3.sz1] at X1
  have HX1 := Lib.hid X1
  have Q := Lib.hid (fun a0 a1 a2 a3 a4 => R5.new w a0 a1 a2 a3 a4)
  have hw1 : ((w.alloc zO).alloc (tO (tkAt l i) a)).heap.size = w.heap.size + 1 + 1 := by rw [S3.sz1, S3.sz1]
  clear X1 hT
  have q2 : ((tkAt l i).1 == 2) = false := beq_eq_false_iff_ne.2 hk
  have HO := Lib.hid (okE_leaf (k := 2) (n := 0) (s := []) (by decide) (by unfold S3.okI; omega) (by decide))
  go_enter Tryz.func81, Tryz.ntmps81
  try simp only [List.append_eq, List.cons_append, List.nil_append]
  go_wp2_with fail
  refine (rkw_is HT1.out K1 (by omega)).mono ?_
  rintro E w2 ⟨rfl, hb⟩
  have HB2 := Lib.hid (after HB1.out hb)
  have HX2 := Lib.hid (HX1.out.keep hb (by rw [hw1]; omega))
  have HT2 := Lib.hid (tokU HT1.out hb)
  clear hb
  go_wp2_with fail
  refine (rkw_is HT2.out K2 (by omega)).mono ?_
  rintro E w3 ⟨rfl, hb⟩
  have HB3 := Lib.hid (after HB2.out hb)
  have HX3 := Lib.hid (HX2.out.keep hb (by have := World.block_lt_of_cell? _ _ HX2.out.c0; exact this))
  have HT3 := Lib.hid (tokU HT2.out hb)
  clear hb
  obtain ⟨z0, z1, z2, z3, z4, r0, r1, r2, r3, r4, y0, y1, y2, y3, y4⟩ := ((Q.out _ _ _ _ _).bel HB3.out).facts
  have hq1 := ((Q.out _ _ _ _ _).bel HB3.out).lt
  have HF := Lib.hid (parse_fin ⟨2, 0, 0, [], []⟩ none 0 0 HB3.out (er_nil _ _))
  go_wp2_with fail
  exact bodyPost_ret (v := .tuple #[S3.eV ⟨2, 0, 0, [], []⟩ (.slice none 0 0), .int .i64 ((i : Int) + 1), .int .i64 0]) (by simp [results, Tryz.results81, go_sem, r0, r1, r2, r3, r4]) rfl ⟨none, 0, 0, by rw [show ((i + 1 : Nat) : Int) = (i : Int) + 1 by omega], HO.out, HF.out.1, HF.out.2⟩
set_option maxRecDepth 100000 in
set_option maxHeartbeats 2000000 in
theorem rop_len {w : World} {l : TL} {v : Value} (hT : TokL w w.heap.size v l) (_hll : l.length ≤ 1000000) (i : Nat) (hil : i < l.length) (d : Nat) (K1 : decide (tkAt l i = (3, [116, 114, 117, 101])) = false) (K2 : decide (tkAt l i = (3, [102, 97, 108, 115, 101])) = false) (K3 : decide (tkAt l i = (3, [108, 101, 110])) = true) (hk : (tkAt l i).1 ≠ 2) (r : Res) (C : ∀ W, TokL W W.heap.size v l → Calls Tryz.prog 131 #[v, .int .i64 (i : Int)] W (PostP W r)) :
    Calls Tryz.prog 81 #[v, .int .i64 (i : Int), .int .i64 (d : Int)] w (PostP w (r)) := by
  obtain ⟨A, c, rfl⟩ := hT.val
  obtain ⟨_, htl, tb, og, a, rfl, htb, t0, t1, t2⟩ := hT.at3 i hil
  have hge : ¬ (l.length : Int) ≤ (i : Int) := by omega
  have HT1 := Lib.hid (tokU (tokU hT (S3.bal w zO)) (S3.bal (w.alloc zO) (tO (tkAt l i) a)))
  have HB1 := Lib.hid (S3.bal (w.alloc zO) (tO (tkAt l i) a))
  have X1 := TBx.new (w.alloc zO) (tkAt l i) a
  rw [S3.sz1] at X1
  have HX1 := Lib.hid X1
  have Q := Lib.hid (fun a0 a1 a2 a3 a4 => R5.new w a0 a1 a2 a3 a4)
  have hw1 : ((w.alloc zO).alloc (tO (tkAt l i) a)).heap.size = w.heap.size + 1 + 1 := by rw [S3.sz1, S3.sz1]
  clear X1 hT
  have q2 : ((tkAt l i).1 == 2) = false := beq_eq_false_iff_ne.2 hk
  have C := Lib.hid C
  go_enter Tryz.func81, Tryz.ntmps81
  try simp only [List.append_eq, List.cons_append, List.nil_append]
  go_wp2_with fail
  refine (rkw_is HT1.out K1 (by omega)).mono ?_
  rintro E w2 ⟨rfl, hb⟩
  have HB2 := Lib.hid (after HB1.out hb)
  have HX2 := Lib.hid (HX1.out.keep hb (by rw [hw1]; omega))
  have HT2 := Lib.hid (tokU HT1.out hb)
  clear hb
  go_wp2_with fail
  refine (rkw_is HT2.out K2 (by omega)).mono ?_
  rintro E w3 ⟨rfl, hb⟩
  have HB3 := Lib.hid (after HB2.out hb)
  have HX3 := Lib.hid (HX2.out.keep hb (by have := World.block_lt_of_cell? _ _ HX2.out.c0; exact this))
  have HT3 := Lib.hid (tokU HT2.out hb)
  clear hb
  go_wp2_with fail
  refine (rkw_is HT3.out K3 (by omega)).mono ?_
  rintro E w4 ⟨rfl, hb⟩
  have HB4 := Lib.hid (after HB3.out hb)
  have HX4 := Lib.hid (HX3.out.keep hb (by have := World.block_lt_of_cell? _ _ HX3.out.c0; exact this))
  have HT4 := Lib.hid (tokU HT3.out hb)
  clear hb
  go_wp2_with fail
  refine (C.out _ HT4.out).mono ?_
  intro E w8 hP
  cases r with
  | bad j c =>
    obtain ⟨rfl, hb⟩ := hP
    have HB8 := Lib.hid (after HB4.out hb)
    clear hb
    obtain ⟨z0, z1, z2, z3, z4, r0, r1, r2, r3, r4, y0, y1, y2, y3, y4⟩ := ((Q.out _ _ _ _ _).bel HB8.out).facts
    have hq1 := ((Q.out _ _ _ _ _).bel HB8.out).lt
    have HF := Lib.hid (parse_fin zE none 0 0 HB8.out (zE_in _ _)).2
    go_wp2_with fail
    exact bodyPost_ret (v := .tuple #[S3.eV zE (.slice none 0 0), .int .i64 (j : Int), .int .i64 c]) (by simp [results, Tryz.results81, go_sem, zE, r0, r1, r2, r3, r4]) rfl ⟨rfl, HF.out⟩
  | ok e n =>
    obtain ⟨A, k, c, rfl, ho, hE, hb⟩ := hP
    have HB8 := Lib.hid (after HB4.out hb)
    have hL := HB4.out.size
    rw [S3.sz1] at hL
    have HE8 := Lib.hid (er_mono hE (show w.heap.size + 1 ≤ w4.heap.size by omega) (Nat.le_refl _))
    have HO8 := Lib.hid ho
    clear hb hE ho
    obtain ⟨z0, z1, z2, z3, z4, r0, r1, r2, r3, r4, y0, y1, y2, y3, y4⟩ := ((Q.out _ _ _ _ _).bel HB8.out).facts
    have hq1 := ((Q.out _ _ _ _ _).bel HB8.out).lt
    have HF := Lib.hid (parse_fin e A k c HB8.out HE8.out)
    go_wp2_with fail
    exact bodyPost_ret (v := .tuple #[S3.eV e (.slice A k c), .int .i64 (n : Int), .int .i64 0]) (by simp [results, Tryz.results81, go_sem, r0, r1, r2, r3, r4]) rfl ⟨A, k, c, rfl, HO8.out, HF.out.1, HF.out.2⟩
set_option maxRecDepth 100000 in
set_option maxHeartbeats 2000000 in
theorem rop_nest {w : World} {l : TL} {v : Value} (hT : TokL w w.heap.size v l) (_hll : l.length ≤ 1000000) (i : Nat) (hil : i < l.length) (d : Nat) (K1 : decide (tkAt l i = (3, [116, 114, 117, 101])) = false) (K2 : decide (tkAt l i = (3, [102, 97, 108, 115, 101])) = false) (K3 : decide (tkAt l i = (3, [108, 101, 110])) = false) (hk : (tkAt l i).1 ≠ 2) (hn : nmTok (tkAt l i) = false) (r : Res) (C : ∀ W, TokL W W.heap.size v l → Calls Tryz.prog 134 #[v, .int .i64 (i : Int), .int .i64 (d : Int)] W (PostP W r)) :
    Calls Tryz.prog 81 #[v, .int .i64 (i : Int), .int .i64 (d : Int)] w (PostP w (r)) := by
  obtain ⟨A, c, rfl⟩ := hT.val
  obtain ⟨_, htl, tb, og, a, rfl, htb, t0, t1, t2⟩ := hT.at3 i hil
  have hge : ¬ (l.length : Int) ≤ (i : Int) := by omega
  have HT1 := Lib.hid (tokU (tokU hT (S3.bal w zO)) (S3.bal (w.alloc zO) (tO (tkAt l i) a)))
  have HB1 := Lib.hid (S3.bal (w.alloc zO) (tO (tkAt l i) a))
  have X1 := TBx.new (w.alloc zO) (tkAt l i) a
  rw [S3.sz1] at X1
  have HX1 := Lib.hid X1
  have Q := Lib.hid (fun a0 a1 a2 a3 a4 => R5.new w a0 a1 a2 a3 a4)
  have hw1 : ((w.alloc zO).alloc (tO (tkAt l i) a)).heap.size = w.heap.size + 1 + 1 := by rw [S3.sz1, S3.sz1]
  clear X1 hT
  have q2 : ((tkAt l i).1 == 2) = false := beq_eq_false_iff_ne.2 hk
  have C := Lib.hid C
  go_enter Tryz.func81, Tryz.ntmps81
  try simp only [List.append_eq, List.cons_append, List.nil_append]
  go_wp2_with fail
  refine (rkw_is HT1.out K1 (by omega)).mono ?_
  rintro E w2 ⟨rfl, hb⟩
  have HB2 := Lib.hid (after HB1.out hb)
  have HX2 := Lib.hid (HX1.out.keep hb (by rw [hw1]; omega))
  have HT2 := Lib.hid (tokU HT1.out hb)
  clear hb
  go_wp2_with fail
  refine (rkw_is HT2.out K2 (by omega)).mono ?_
  rintro E w3 ⟨rfl, hb⟩
  have HB3 := Lib.hid (after HB2.out hb)
  have HX3 := Lib.hid (HX2.out.keep hb (by have := World.block_lt_of_cell? _ _ HX2.out.c0; exact this))
  have HT3 := Lib.hid (tokU HT2.out hb)
  clear hb
  go_wp2_with fail
  refine (rkw_is HT3.out K3 (by omega)).mono ?_
  rintro E w4 ⟨rfl, hb⟩
  have HB4 := Lib.hid (after HB3.out hb)
  have HX4 := Lib.hid (HX3.out.keep hb (by have := World.block_lt_of_cell? _ _ HX3.out.c0; exact this))
  have HT4 := Lib.hid (tokU HT3.out hb)
  clear hb
  obtain ⟨b0, b1, b2⟩ := HX4.out
  go_wp2_with fail
  refine (rnm_calls _ _ _ htl _).mono ?_
  rintro E w5 ⟨rfl, hb⟩
  rw [show nmTok ((tkAt l i).1, (tkAt l i).2) = false from hn]
  have HB5 := Lib.hid (after HB4.out hb)
  have HX5 := Lib.hid ((⟨b0, b1, b2⟩ : TBx w4 (w.heap.size + 1) (tkAt l i) a).keep hb (World.block_lt_of_cell? _ _ b0))
  have HT5 := Lib.hid (tokU HT4.out hb)
  clear hb b0 b1 b2
  go_wp2_with fail
  refine (C.out _ HT5.out).mono ?_
  intro E w8 hP
  cases r with
  | bad j c =>
    obtain ⟨rfl, hb⟩ := hP
    have HB8 := Lib.hid (after HB5.out hb)
    clear hb
    obtain ⟨z0, z1, z2, z3, z4, r0, r1, r2, r3, r4, y0, y1, y2, y3, y4⟩ := ((Q.out _ _ _ _ _).bel HB8.out).facts
    have hq1 := ((Q.out _ _ _ _ _).bel HB8.out).lt
    have HF := Lib.hid (parse_fin zE none 0 0 HB8.out (zE_in _ _)).2
    go_wp2_with fail
    exact bodyPost_ret (v := .tuple #[S3.eV zE (.slice none 0 0), .int .i64 (j : Int), .int .i64 c]) (by simp [results, Tryz.results81, go_sem, zE, r0, r1, r2, r3, r4]) rfl ⟨rfl, HF.out⟩
  | ok e n =>
    obtain ⟨A, k, c, rfl, ho, hE, hb⟩ := hP
    have HB8 := Lib.hid (after HB5.out hb)
    have hL := HB5.out.size
    rw [S3.sz1] at hL
    have HE8 := Lib.hid (er_mono hE (show w.heap.size + 1 ≤ w5.heap.size by omega) (Nat.le_refl _))
    have HO8 := Lib.hid ho
    clear hb hE ho
    obtain ⟨z0, z1, z2, z3, z4, r0, r1, r2, r3, r4, y0, y1, y2, y3, y4⟩ := ((Q.out _ _ _ _ _).bel HB8.out).facts
    have hq1 := ((Q.out _ _ _ _ _).bel HB8.out).lt
    have HF := Lib.hid (parse_fin e A k c HB8.out HE8.out)
    go_wp2_with fail
    exact bodyPost_ret (v := .tuple #[S3.eV e (.slice A k c), .int .i64 (n : Int), .int .i64 0]) (by simp [results, Tryz.results81, go_sem, r0, r1, r2, r3, r4]) rfl ⟨A, k, c, rfl, HO8.out, HF.out.1, HF.out.2⟩
set_option maxRecDepth 100000 in
set_option maxHeartbeats 2000000 in
theorem rop_idx {w : World} {l : TL} {v : Value} (hT : TokL w w.heap.size v l) (_hll : l.length ≤ 1000000) (i : Nat) (hil : i < l.length) (d : Nat) (K1 : decide (tkAt l i = (3, [116, 114, 117, 101])) = false) (K2 : decide (tkAt l i = (3, [102, 97, 108, 115, 101])) = false) (K3 : decide (tkAt l i = (3, [108, 101, 110])) = false) (hk : (tkAt l i).1 ≠ 2) (hn : nmTok (tkAt l i) = true) (hs : sgAt l (i + 1) = [91]) (r : Res) (C : ∀ W, TokL W W.heap.size v l → Calls Tryz.prog 133 #[v, .int .i64 (i : Int), .int .i64 (d : Int)] W (PostP W r)) :
    Calls Tryz.prog 81 #[v, .int .i64 (i : Int), .int .i64 (d : Int)] w (PostP w (r)) := by
  obtain ⟨A, c, rfl⟩ := hT.val
  obtain ⟨_, htl, tb, og, a, rfl, htb, t0, t1, t2⟩ := hT.at3 i hil
  have hge : ¬ (l.length : Int) ≤ (i : Int) := by omega
  have HT1 := Lib.hid (tokU (tokU hT (S3.bal w zO)) (S3.bal (w.alloc zO) (tO (tkAt l i) a)))
  have HB1 := Lib.hid (S3.bal (w.alloc zO) (tO (tkAt l i) a))
  have X1 := TBx.new (w.alloc zO) (tkAt l i) a
  rw [S3.sz1] at X1
  have HX1 := Lib.hid X1
  have Q := Lib.hid (fun a0 a1 a2 a3 a4 => R5.new w a0 a1 a2 a3 a4)
  have hw1 : ((w.alloc zO).alloc (tO (tkAt l i) a)).heap.size = w.heap.size + 1 + 1 := by rw [S3.sz1, S3.sz1]
  clear X1 hT
  have q2 : ((tkAt l i).1 == 2) = false := beq_eq_false_iff_ne.2 hk
  have C := Lib.hid C
  have q6 : (sgAt l (i + 1) == [91]) = true := by rw [hs]; rfl
  go_enter Tryz.func81, Tryz.ntmps81
  try simp only [List.append_eq, List.cons_append, List.nil_append]
  go_wp2_with fail
  refine (rkw_is HT1.out K1 (by omega)).mono ?_
  rintro E w2 ⟨rfl, hb⟩
  have HB2 := Lib.hid (after HB1.out hb)
  have HX2 := Lib.hid (HX1.out.keep hb (by rw [hw1]; omega))
  have HT2 := Lib.hid (tokU HT1.out hb)
  clear hb
  go_wp2_with fail
  refine (rkw_is HT2.out K2 (by omega)).mono ?_
  rintro E w3 ⟨rfl, hb⟩
  have HB3 := Lib.hid (after HB2.out hb)
  have HX3 := Lib.hid (HX2.out.keep hb (by have := World.block_lt_of_cell? _ _ HX2.out.c0; exact this))
  have HT3 := Lib.hid (tokU HT2.out hb)
  clear hb
  go_wp2_with fail
  refine (rkw_is HT3.out K3 (by omega)).mono ?_
  rintro E w4 ⟨rfl, hb⟩
  have HB4 := Lib.hid (after HB3.out hb)
  have HX4 := Lib.hid (HX3.out.keep hb (by have := World.block_lt_of_cell? _ _ HX3.out.c0; exact this))
  have HT4 := Lib.hid (tokU HT3.out hb)
  clear hb
  obtain ⟨b0, b1, b2⟩ := HX4.out
  go_wp2_with fail
  refine (rnm_calls _ _ _ htl _).mono ?_
  rintro E w5 ⟨rfl, hb⟩
  rw [show nmTok ((tkAt l i).1, (tkAt l i).2) = true from hn]
  have HB5 := Lib.hid (after HB4.out hb)
  have HX5 := Lib.hid ((⟨b0, b1, b2⟩ : TBx w4 (w.heap.size + 1) (tkAt l i) a).keep hb (World.block_lt_of_cell? _ _ b0))
  have HT5 := Lib.hid (tokU HT4.out hb)
  clear hb b0 b1 b2
  go_wp2_with fail
  refine (rsg_is HT5.out q6 (by simp) (by omega)).mono ?_
  rintro E w6 ⟨rfl, hb⟩
  have HB6 := Lib.hid (after HB5.out hb)
  have HX6 := Lib.hid (HX5.out.keep hb (World.block_lt_of_cell? _ _ HX5.out.c0))
  have HT6 := Lib.hid (tokU HT5.out hb)
  clear hb
  go_wp2_with fail
  refine (C.out _ HT6.out).mono ?_
  intro E w8 hP
  cases r with
  | bad j c =>
    obtain ⟨rfl, hb⟩ := hP
    have HB8 := Lib.hid (after HB6.out hb)
    clear hb
    obtain ⟨z0, z1, z2, z3, z4, r0, r1, r2, r3, r4, y0, y1, y2, y3, y4⟩ := ((Q.out _ _ _ _ _).bel HB8.out).facts
    have hq1 := ((Q.out _ _ _ _ _).bel HB8.out).lt
    have HF := Lib.hid (parse_fin zE none 0 0 HB8.out (zE_in _ _)).2
    go_wp2_with fail
    exact bodyPost_ret (v := .tuple #[S3.eV zE (.slice none 0 0), .int .i64 (j : Int), .int .i64 c]) (by simp [results, Tryz.results81, go_sem, zE, r0, r1, r2, r3, r4]) rfl ⟨rfl, HF.out⟩
  | ok e n =>
    obtain ⟨A, k, c, rfl, ho, hE, hb⟩ := hP
    have HB8 := Lib.hid (after HB6.out hb)
    have hL := HB6.out.size
    rw [S3.sz1] at hL
    have HE8 := Lib.hid (er_mono hE (show w.heap.size + 1 ≤ w6.heap.size by omega) (Nat.le_refl _))
    have HO8 := Lib.hid ho
    clear hb hE ho
    obtain ⟨z0, z1, z2, z3, z4, r0, r1, r2, r3, r4, y0, y1, y2, y3, y4⟩ := ((Q.out _ _ _ _ _).bel HB8.out).facts
    have hq1 := ((Q.out _ _ _ _ _).bel HB8.out).lt
    have HF := Lib.hid (parse_fin e A k c HB8.out HE8.out)
    go_wp2_with fail
    exact bodyPost_ret (v := .tuple #[S3.eV e (.slice A k c), .int .i64 (n : Int), .int .i64 0]) (by simp [results, Tryz.results81, go_sem, r0, r1, r2, r3, r4]) rfl ⟨A, k, c, rfl, HO8.out, HF.out.1, HF.out.2⟩
set_option maxRecDepth 100000 in
set_option maxHeartbeats 2000000 in
theorem rop_var {w : World} {l : TL} {v : Value} (hT : TokL w w.heap.size v l) (_hll : l.length ≤ 1000000) (i : Nat) (hil : i < l.length) (d : Nat) (K1 : decide (tkAt l i = (3, [116, 114, 117, 101])) = false) (K2 : decide (tkAt l i = (3, [102, 97, 108, 115, 101])) = false) (K3 : decide (tkAt l i = (3, [108, 101, 110])) = false) (hk : (tkAt l i).1 ≠ 2) (hn : nmTok (tkAt l i) = true) (hs : sgAt l (i + 1) ≠ [91]) :
    Calls Tryz.prog 81 #[v, .int .i64 (i : Int), .int .i64 (d : Int)] w (PostP w (.ok ⟨3, 0, 0, (tkAt l i).2, []⟩ (i + 1))) := by
  obtain ⟨A, c, rfl⟩ := hT.val
  obtain ⟨_, htl, tb, og, a, rfl, htb, t0, t1, t2⟩ := hT.at3 i hil
  have hge : ¬ (l.length : Int) ≤ (i : Int) := by omega
  have HT1 := Lib.hid (tokU (tokU hT (S3.bal w zO)) (S3.bal (w.alloc zO) (tO (tkAt l i) a)))
  have HB1 := Lib.hid (S3.bal (w.alloc zO) (tO (tkAt l i) a))
  have X1 := TBx.new (w.alloc zO) (tkAt l i) a
  rw [S3.sz1] at X1
  have HX1 := Lib.hid X1
  have Q := Lib.hid (fun a0 a1 a2 a3 a4 => R5.new w a0 a1 a2 a3 a4)
  have hw1 : ((w.alloc zO).alloc (tO (tkAt l i) a)).heap.size = w.heap.size + 1 + 1 := by rw [S3.sz1, S3.sz1]
  clear X1 hT
  have q2 : ((tkAt l i).1 == 2) = false := beq_eq_false_iff_ne.2 hk
  have q6 : (sgAt l (i + 1) == [91]) = false := beq_eq_false_iff_ne.2 hs
  go_enter Tryz.func81, Tryz.ntmps81
  try simp only [List.append_eq, List.cons_append, List.nil_append]
  go_wp2_with fail
  refine (rkw_is HT1.out K1 (by omega)).mono ?_
  rintro E w2 ⟨rfl, hb⟩
  have HB2 := Lib.hid (after HB1.out hb)
  have HX2 := Lib.hid (HX1.out.keep hb (by rw [hw1]; omega))
  have HT2 := Lib.hid (tokU HT1.out hb)
  clear hb
  go_wp2_with fail
  refine (rkw_is HT2.out K2 (by omega)).mono ?_
  rintro E w3 ⟨rfl, hb⟩
  have HB3 := Lib.hid (after HB2.out hb)
  have HX3 := Lib.hid (HX2.out.keep hb (by have := World.block_lt_of_cell? _ _ HX2.out.c0; exact this))
  have HT3 := Lib.hid (tokU HT2.out hb)
  clear hb
  go_wp2_with fail
  refine (rkw_is HT3.out K3 (by omega)).mono ?_
  rintro E w4 ⟨rfl, hb⟩
  have HB4 := Lib.hid (after HB3.out hb)
  have HX4 := Lib.hid (HX3.out.keep hb (by have := World.block_lt_of_cell? _ _ HX3.out.c0; exact this))
  have HT4 := Lib.hid (tokU HT3.out hb)
  clear hb
  obtain ⟨b0, b1, b2⟩ := HX4.out
  go_wp2_with fail
  refine (rnm_calls _ _ _ htl _).mono ?_
  rintro E w5 ⟨rfl, hb⟩
  rw [show nmTok ((tkAt l i).1, (tkAt l i).2) = true from hn]
  have HB5 := Lib.hid (after HB4.out hb)
  have HX5 := Lib.hid ((⟨b0, b1, b2⟩ : TBx w4 (w.heap.size + 1) (tkAt l i) a).keep hb (World.block_lt_of_cell? _ _ b0))
  have HT5 := Lib.hid (tokU HT4.out hb)
  clear hb b0 b1 b2
  go_wp2_with fail
  refine (rsg_is HT5.out q6 (by simp) (by omega)).mono ?_
  rintro E w6 ⟨rfl, hb⟩
  have HB6 := Lib.hid (after HB5.out hb)
  have HX6 := Lib.hid (HX5.out.keep hb (World.block_lt_of_cell? _ _ HX5.out.c0))
  have HT6 := Lib.hid (tokU HT5.out hb)
  clear hb
  obtain ⟨b0, b1, b2⟩ := HX6.out
  have HO := Lib.hid (okE_leaf (k := 3) (n := 0) (s := (tkAt l i).2) (by decide) (by unfold S3.okI; omega) htl)
  obtain ⟨z0, z1, z2, z3, z4, r0, r1, r2, r3, r4, y0, y1, y2, y3, y4⟩ := ((Q.out _ _ _ _ _).bel HB6.out).facts
  have hq1 := ((Q.out _ _ _ _ _).bel HB6.out).lt
  have HF := Lib.hid (parse_fin ⟨3, 0, 0, (tkAt l i).2, []⟩ none 0 0 HB6.out (er_nil _ _))
  go_wp2_with fail
  exact bodyPost_ret (v := .tuple #[S3.eV ⟨3, 0, 0, (tkAt l i).2, []⟩ (.slice none 0 0), .int .i64 ((i : Int) + 1), .int .i64 0]) (by simp [results, Tryz.results81, go_sem, r0, r1, r2, r3, r4]) rfl ⟨none, 0, 0, by rw [show ((i + 1 : Nat) : Int) = (i : Int) + 1 by omega], HO.out, HF.out.1, HF.out.2⟩
end Go.Proofs.YtlhifbckmknijaaGreatDoor.E5
