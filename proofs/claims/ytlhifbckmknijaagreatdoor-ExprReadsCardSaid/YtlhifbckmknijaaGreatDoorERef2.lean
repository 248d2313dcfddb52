/-
  The document's own reading of expressions: made, length, index: contracts. Written by gen5_ref.py.
-/
import Derived.Test.YtlhifbckmknijaaGreatDoorERef
import Derived.BigRegion
import Derived.Deep.RegionWith
import Derived.Deep.RegionHeld3
namespace Go.Proofs.YtlhifbckmknijaaGreatDoor.E5
open Go Go.RowKit Go.Proofs.YtlhifbckmknijaaGreatDoor

abbrev zO : Obj := .cells #[.int .i64 0, .int .i64 0, .int .i64 0, .string ⟨#[]⟩, .slice none 0 0] 29
theorem put5_al {w : World} {q : Nat} (h : R5 w q) (a0 a1 a2 a3 a4 : Value) (o : Obj) : ((put5 w q a0 a1 a2 a3 a4).alloc o).cell? ⟨q, 0, none⟩ = some a0 ∧ ((put5 w q a0 a1 a2 a3 a4).alloc o).cell? ⟨q, 1, none⟩ = some a1 ∧ ((put5 w q a0 a1 a2 a3 a4).alloc o).cell? ⟨q, 2, none⟩ = some a2 ∧ ((put5 w q a0 a1 a2 a3 a4).alloc o).cell? ⟨q, 3, none⟩ = some a3 ∧ ((put5 w q a0 a1 a2 a3 a4).alloc o).cell? ⟨q, 4, none⟩ = some a4 := by
  have hr := put5_row h a0 a1 a2 a3 a4
  have hlt := row5_lt hr
  have h2 := ((S3.bal (put5 w q a0 a1 a2 a3 a4) o).block q hlt).trans hr
  exact ⟨(cell_of_row _ _ 0 _ _ _ h2).trans rfl, (cell_of_row _ _ 1 _ _ _ h2).trans rfl, (cell_of_row _ _ 2 _ _ _ h2).trans rfl, (cell_of_row _ _ 3 _ _ _ h2).trans rfl, (cell_of_row _ _ 4 _ _ _ h2).trans rfl⟩
theorem bal_dr2 (w : World) : Below w.heap.size w w.drew := (Below.refl _ w).drew
/-- What index's last region reads: a token's text, the expression's box. -/
structure IxS (W : World) (tb o q : Nat) (s : Bytes) (e : Ex) (va : Value) : Prop where
  t : W.cell? ⟨tb, o, none⟩ = some (.string (B s))
  x : S3.EBox W q e va
theorem IxS.bel {W W' : World} {tb o q : Nat} {s : Bytes} {e : Ex} {va : Value} (h : IxS W tb o q s e va) (hb : Below W.heap.size W W') (h1 : tb < W.heap.size) (h2 : q < W.heap.size) : IxS W' tb o q s e va :=
  ⟨(hb.cell (p := ⟨tb, o, none⟩) h1).trans h.t, h.x.keep hb h2⟩
theorem IxS.put {W : World} {tb o q z : Nat} {s : Bytes} {e : Ex} {va : Value} (h : IxS W tb o q s e va) (a0 a1 a2 a3 a4 : Value) (h1 : tb ≠ z) (h2 : q ≠ z) : IxS (put5 W z a0 a1 a2 a3 a4) tb o q s e va := by
  have h6 := put5_heap W z a0 a1 a2 a3 a4
  generalize put5 W z a0 a1 a2 a3 a4 = W' at *
  have k := fun b i (hb : b ≠ z) => World.cell?_of_block (w := W) (w' := W') (a := ⟨b, i, none⟩) (h6 b hb)
  exact ⟨(k tb o h1).trans h.t, ⟨(k q 0 h2).trans h.x.c0, (k q 1 h2).trans h.x.c1, (k q 2 h2).trans h.x.c2, (k q 3 h2).trans h.x.c3, (k q 4 h2).trans h.x.c4⟩⟩
theorem zE_in (w : World) (R : Nat → Prop) : S3.ER w R zE.args (.slice none 0 0) := er_nil w R
theorem rsg_is {w : World} {l : TL} {v : Value} (hT : TokL w w.heap.size v l) {i : Nat} {j : Int} {s : Bytes} {b : Bool} (hq : (sgAt l i == s) = b) (hs : s ≠ []) (hj : j = (i : Int)) :
    Calls Tryz.prog 48 #[v, .int .i64 j, .int .i64 4, .string (B s)] w fun e w' => e = .returned (.bool b) ∧ Below w.heap.size w w' := by
  subst hj
  rw [← hq]
  exact rsg_calls hT i s hs
theorem rkw_is {w : World} {l : TL} {v : Value} (hT : TokL w w.heap.size v l) {i : Nat} {j : Int} {s : Bytes} {b : Bool} (hq : decide (tkAt l i = (3, s)) = b) (hj : j = (i : Int)) :
    Calls Tryz.prog 48 #[v, .int .i64 j, .int .i64 3, .string (B s)] w fun e w' => e = .returned (.bool b) ∧ Below w.heap.size w w' := by
  subst hj
  rw [← hq]
  exact ris_calls hT i 3 s (by decide)
/-- The cells of a token. -/
theorem TokL.at3 {w : World} {l : TL} {A : Option Addr} {n c : Nat} (h : TokL w w.heap.size (.slice A n c) l) (i : Nat) (hi : i < l.length) : n = l.length ∧ (tkAt l i).2.length ≤ 9223372036854775807 ∧ ∃ b o a, A = some ⟨b, o, none⟩ ∧ b < w.heap.size ∧ w.cell? ⟨b, o + i * 3, none⟩ = some (.int .i64 (tkAt l i).1) ∧ w.cell? ⟨b, o + i * 3 + 1, none⟩ = some (.string (B (tkAt l i).2)) ∧ w.cell? ⟨b, o + i * 3 + 2, none⟩ = some (.int .i64 a) := by
  obtain ⟨A', c', h1, h2, h3⟩ := h
  cases h1
  obtain ⟨e0, b, o, a, e1, e2, e3, e4, e5⟩ := h3 i _ (tk_in hi)
  exact ⟨rfl, e0, b, o, a, e1, e2, e3, e4, e5⟩
set_option maxRecDepth 100000 in
set_option maxHeartbeats 2000000 in
theorem rmade_yes (e : Ex) (ho : S3.OkE e) (hx : S3.exB e = true) (A : Option Addr) (k c : Nat) (j : Int) (hn : 1 ≤ j) (hn2 : j ≤ 9223372036854775807) (w : World) (hE : S3.EIn w w.heap.size e.args (.slice A k c)) :
    Calls Tryz.prog 83 #[S3.eV e (.slice A k c), .int .i64 j] w fun E w' => E = .returned (.tuple #[S3.eV e (.slice A k c), .int .i64 j, .int .i64 0]) ∧ Below w.heap.size w w' := by
  have C0 := fun W (hb : Below w.heap.size w W) => S3.refExpr_calls e ho (.slice A k c) W (hE.keep hb.size fun q i hq => hb.cell (p := ⟨q, i, none⟩) hq)
  rw [hx] at C0
  have C := Lib.hid C0
  have B2 := Lib.hid (fun o p => (S3.bal w o).alloc (by simp) p)
  have Q := Lib.hid (fun o a0 a1 a2 a3 a4 => R5.new (w.alloc o) a0 a1 a2 a3 a4)
  have X := Lib.hid (fun p => (S3.EBox.new w e (.slice A k c)).keep (S3.bal (w.alloc (S3.eO e (.slice A k c))) p) (by simp))
  have hs : IntKind.i64.wrap (j - 1) = j - 1 := IntWalk.i64_in _ (by omega)
  clear hE C0
  go_enter Tryz.func83, Tryz.ntmps83
  try simp only [List.append_eq, List.cons_append, List.nil_append]
  go_wp2_with fail
  refine (C.out _ (B2.out _ _)).mono ?_
  rintro E w1 ⟨rfl, hb⟩
  obtain ⟨z0, z1, z2, z3, z4, r0, r1, r2, r3, r4, y0, y1, y2, y3, y4⟩ := ((Q.out _ _ _ _ _ _).bel hb).facts
  have hq1 := ((Q.out _ _ _ _ _ _).bel hb).lt
  obtain ⟨x0, x1, x2, x3, x4⟩ := (X.out _).keep hb (by rw [S3.sz1, S3.sz1]; omega)
  rw [S3.sz1] at r0 r1 r2 r3 r4 y0 y1 y2 y3 y4 hq1
  have HF := Lib.hid (put5_below (after (B2.out (S3.eO e (.slice A k c)) zO) hb) (q := w.heap.size + 1) (by omega) (.int .i64 e.kind) (.int .i64 e.op) (.int .i64 e.num) (.string (S3.B e.name)) (.slice A k c))
  clear hb C
  go_wp2_with fail
  exact bodyPost_ret (v := .tuple #[S3.eV e (.slice A k c), .int .i64 (j), .int .i64 0]) (by simp [results, Tryz.results83, go_sem, r0, r1, r2, r3, r4]) rfl ⟨rfl, HF.out⟩
set_option maxRecDepth 100000 in
set_option maxHeartbeats 2000000 in
theorem rmade_no (e : Ex) (ho : S3.OkE e) (hx : S3.exB e = false) (A : Option Addr) (k c : Nat) (j : Int) (hn : 1 ≤ j) (hn2 : j ≤ 9223372036854775807) (w : World) (hE : S3.EIn w w.heap.size e.args (.slice A k c)) :
    Calls Tryz.prog 83 #[S3.eV e (.slice A k c), .int .i64 j] w fun E w' => E = .returned (.tuple #[S3.eV zE (.slice none 0 0), .int .i64 (j - 1), .int .i64 8]) ∧ Below w.heap.size w w' := by
  have C0 := fun W (hb : Below w.heap.size w W) => S3.refExpr_calls e ho (.slice A k c) W (hE.keep hb.size fun q i hq => hb.cell (p := ⟨q, i, none⟩) hq)
  rw [hx] at C0
  have C := Lib.hid C0
  have B2 := Lib.hid (fun o p => (S3.bal w o).alloc (by simp) p)
  have Q := Lib.hid (fun o a0 a1 a2 a3 a4 => R5.new (w.alloc o) a0 a1 a2 a3 a4)
  have X := Lib.hid (fun p => (S3.EBox.new w e (.slice A k c)).keep (S3.bal (w.alloc (S3.eO e (.slice A k c))) p) (by simp))
  have hs : IntKind.i64.wrap (j - 1) = j - 1 := IntWalk.i64_in _ (by omega)
  clear hE C0
  go_enter Tryz.func83, Tryz.ntmps83
  try simp only [List.append_eq, List.cons_append, List.nil_append]
  go_wp2_with fail
  refine (C.out _ (B2.out _ _)).mono ?_
  rintro E w1 ⟨rfl, hb⟩
  obtain ⟨z0, z1, z2, z3, z4, r0, r1, r2, r3, r4, y0, y1, y2, y3, y4⟩ := ((Q.out _ _ _ _ _ _).bel hb).facts
  have hq1 := ((Q.out _ _ _ _ _ _).bel hb).lt
  obtain ⟨x0, x1, x2, x3, x4⟩ := (X.out _).keep hb (by rw [S3.sz1, S3.sz1]; omega)
  rw [S3.sz1] at r0 r1 r2 r3 r4 y0 y1 y2 y3 y4 hq1
  have HF := Lib.hid (put5_below (after (B2.out (S3.eO e (.slice A k c)) zO) hb) (q := w.heap.size + 1) (by omega) (.int .i64 0) (.int .i64 0) (.int .i64 0) (.string ⟨#[]⟩) (.slice none 0 0))
  clear hb C
  go_wp2_with fail
  exact bodyPost_ret (v := .tuple #[S3.eV zE (.slice none 0 0), .int .i64 (j - 1), .int .i64 8]) (by simp [results, Tryz.results83, go_sem, zE, r0, r1, r2, r3, r4]) rfl ⟨rfl, HF.out⟩
set_option maxRecDepth 100000 in
set_option maxHeartbeats 2000000 in
theorem rlen_open {w : World} {l : TL} {v : Value} (hT : TokL w w.heap.size v l) (_hll : l.length ≤ 1000000) (i : Nat) (_hi : i ≤ l.length) (hs : sgAt l (i + 1) ≠ [40]) :
    Calls Tryz.prog 131 #[v, .int .i64 (i : Int)] w (PostP w (.bad (i + 1) 7)) := by
  have q1 : (sgAt l (i + 1) == [40]) = false := beq_eq_false_iff_ne.2 hs
  have HT0 := Lib.hid (fun o => tokU hT (S3.bal w o))
  have Q := Lib.hid (fun a0 a1 a2 a3 a4 => R5.new w a0 a1 a2 a3 a4)
  clear hT
  go_enter Tryz.func131, Tryz.ntmps131
  try simp only [List.append_eq, List.cons_append, List.nil_append]
  go_wp2_with fail
  refine (rsg_is (HT0.out _) q1 (by simp) (by omega)).mono ?_
  rintro E w1 ⟨rfl, hb⟩
  have HB1 := Lib.hid (hb)
  have HT1 := Lib.hid (tokU (HT0.out _) hb)
  clear hb
  obtain ⟨z0, z1, z2, z3, z4, r0, r1, r2, r3, r4, y0, y1, y2, y3, y4⟩ := ((Q.out _ _ _ _ _).bel HB1.out).facts
  have hq1 := ((Q.out _ _ _ _ _).bel HB1.out).lt
  have HF := Lib.hid (parse_fin zE none 0 0 HB1.out (zE_in _ _)).2
  go_wp2_with fail
  exact bodyPost_ret (v := .tuple #[S3.eV zE (.slice none 0 0), .int .i64 ((i : Int) + 1), .int .i64 7]) (by simp [results, Tryz.results131, go_sem, zE, r0, r1, r2, r3, r4]) rfl ⟨by rw [show ((i + 1 : Nat) : Int) = (i : Int) + 1 by omega], HF.out⟩
set_option maxRecDepth 100000 in
set_option maxHeartbeats 2000000 in
theorem rlen_end {w : World} {l : TL} {v : Value} (hT : TokL w w.heap.size v l) (_hll : l.length ≤ 1000000) (i : Nat) (_hi : i ≤ l.length) (hs : sgAt l (i + 1) = [40]) (hl : l.length ≤ i + 2) :
    Calls Tryz.prog 131 #[v, .int .i64 (i : Int)] w (PostP w (.bad (i + 2) 7)) := by
  have q1 : (sgAt l (i + 1) == [40]) = true := by rw [hs]; rfl
  obtain ⟨A, c, rfl⟩ := hT.val
  have hge : (l.length : Int) ≤ (i : Int) + 2 := by omega
  have HT0 := Lib.hid (fun o => tokU hT (S3.bal w o))
  have Q := Lib.hid (fun a0 a1 a2 a3 a4 => R5.new w a0 a1 a2 a3 a4)
  clear hT
  go_enter Tryz.func131, Tryz.ntmps131
  try simp only [List.append_eq, List.cons_append, List.nil_append]
  go_wp2_with fail
  refine (rsg_is (HT0.out _) q1 (by simp) (by omega)).mono ?_
  rintro E w1 ⟨rfl, hb⟩
  have HB1 := Lib.hid (hb)
  have HT1 := Lib.hid (tokU (HT0.out _) hb)
  clear hb
  obtain ⟨z0, z1, z2, z3, z4, r0, r1, r2, r3, r4, y0, y1, y2, y3, y4⟩ := ((Q.out _ _ _ _ _).bel HB1.out).facts
  have hq1 := ((Q.out _ _ _ _ _).bel HB1.out).lt
  have HF := Lib.hid (parse_fin zE none 0 0 HB1.out (zE_in _ _)).2
  go_wp2_with fail
  exact bodyPost_ret (v := .tuple #[S3.eV zE (.slice none 0 0), .int .i64 ((i : Int) + 2), .int .i64 7]) (by simp [results, Tryz.results131, go_sem, zE, r0, r1, r2, r3, r4]) rfl ⟨by rw [show ((i + 2 : Nat) : Int) = (i : Int) + 2 by omega], HF.out⟩
set_option maxRecDepth 100000 in
set_option maxHeartbeats 2000000 in
theorem rlen_name {w : World} {l : TL} {v : Value} (hT : TokL w w.heap.size v l) (_hll : l.length ≤ 1000000) (i : Nat) (_hi : i ≤ l.length) (hs : sgAt l (i + 1) = [40]) (hl : i + 2 < l.length) (hn : nmTok (tkAt l (i + 2)) = false) :
    Calls Tryz.prog 131 #[v, .int .i64 (i : Int)] w (PostP w (.bad (i + 2) 7)) := by
  have q1 : (sgAt l (i + 1) == [40]) = true := by rw [hs]; rfl
  obtain ⟨A, c, rfl⟩ := hT.val
  have HT0 := Lib.hid (fun o => tokU hT (S3.bal w o))
  have Q := Lib.hid (fun a0 a1 a2 a3 a4 => R5.new w a0 a1 a2 a3 a4)
  clear hT
  go_enter Tryz.func131, Tryz.ntmps131
  try simp only [List.append_eq, List.cons_append, List.nil_append]
  go_wp2_with fail
  refine (rsg_is (HT0.out _) q1 (by simp) (by omega)).mono ?_
  rintro E w1 ⟨rfl, hb⟩
  have HB1 := Lib.hid (hb)
  have HT1 := Lib.hid (tokU (HT0.out _) hb)
  clear hb
  obtain ⟨_, htl, tb, og, ta, rfl, htb, t0, t1, t2⟩ := HT1.out.at3 (i + 2) hl
  have hge : ¬ (l.length : Int) ≤ (i : Int) + 2 := by omega
  go_wp2_with fail
  refine (rnm_calls _ _ _ htl _).mono ?_
  rintro E w2 ⟨rfl, hb⟩
  rw [show nmTok ((tkAt l (i + 2)).1, (tkAt l (i + 2)).2) = false from hn]
  have HB2 := Lib.hid (after HB1.out hb)
  have HT2 := Lib.hid (tokU HT1.out hb)
  clear hb
  obtain ⟨z0, z1, z2, z3, z4, r0, r1, r2, r3, r4, y0, y1, y2, y3, y4⟩ := ((Q.out _ _ _ _ _).bel HB2.out).facts
  have hq1 := ((Q.out _ _ _ _ _).bel HB2.out).lt
  have HF := Lib.hid (parse_fin zE none 0 0 HB2.out (zE_in _ _)).2
  go_wp2_with fail
  exact bodyPost_ret (v := .tuple #[S3.eV zE (.slice none 0 0), .int .i64 ((i : Int) + 2), .int .i64 7]) (by simp [results, Tryz.results131, go_sem, zE, r0, r1, r2, r3, r4]) rfl ⟨by rw [show ((i + 2 : Nat) : Int) = (i : Int) + 2 by omega], HF.out⟩
set_option maxRecDepth 100000 in
set_option maxHeartbeats 2000000 in
theorem rlen_shut {w : World} {l : TL} {v : Value} (hT : TokL w w.heap.size v l) (_hll : l.length ≤ 1000000) (i : Nat) (_hi : i ≤ l.length) (hs : sgAt l (i + 1) = [40]) (hl : i + 2 < l.length) (hn : nmTok (tkAt l (i + 2)) = true) (hs3 : sgAt l (i + 3) ≠ [41]) :
    Calls Tryz.prog 131 #[v, .int .i64 (i : Int)] w (PostP w (.bad (i + 3) 7)) := by
  have q1 : (sgAt l (i + 1) == [40]) = true := by rw [hs]; rfl
  have q3 : (sgAt l (i + 3) == [41]) = false := beq_eq_false_iff_ne.2 hs3
  obtain ⟨A, c, rfl⟩ := hT.val
  have HT0 := Lib.hid (fun o => tokU hT (S3.bal w o))
  have Q := Lib.hid (fun a0 a1 a2 a3 a4 => R5.new w a0 a1 a2 a3 a4)
  clear hT
  go_enter Tryz.func131, Tryz.ntmps131
  try simp only [List.append_eq, List.cons_append, List.nil_append]
  go_wp2_with fail
  refine (rsg_is (HT0.out _) q1 (by simp) (by omega)).mono ?_
  rintro E w1 ⟨rfl, hb⟩
  have HB1 := Lib.hid (hb)
  have HT1 := Lib.hid (tokU (HT0.out _) hb)
  clear hb
  obtain ⟨_, htl, tb, og, ta, rfl, htb, t0, t1, t2⟩ := HT1.out.at3 (i + 2) hl
  have hge : ¬ (l.length : Int) ≤ (i : Int) + 2 := by omega
  go_wp2_with fail
  refine (rnm_calls _ _ _ htl _).mono ?_
  rintro E w2 ⟨rfl, hb⟩
  rw [show nmTok ((tkAt l (i + 2)).1, (tkAt l (i + 2)).2) = true from hn]
  have HB2 := Lib.hid (after HB1.out hb)
  have HT2 := Lib.hid (tokU HT1.out hb)
  clear hb
  go_wp2_with fail
  refine (rsg_is HT2.out q3 (by simp) (by omega)).mono ?_
  rintro E w3 ⟨rfl, hb⟩
  have HB3 := Lib.hid (after HB2.out hb)
  have HT3 := Lib.hid (tokU HT2.out hb)
  clear hb
  obtain ⟨z0, z1, z2, z3, z4, r0, r1, r2, r3, r4, y0, y1, y2, y3, y4⟩ := ((Q.out _ _ _ _ _).bel HB3.out).facts
  have hq1 := ((Q.out _ _ _ _ _).bel HB3.out).lt
  have HF := Lib.hid (parse_fin zE none 0 0 HB3.out (zE_in _ _)).2
  go_wp2_with fail
  exact bodyPost_ret (v := .tuple #[S3.eV zE (.slice none 0 0), .int .i64 ((i : Int) + 3), .int .i64 7]) (by simp [results, Tryz.results131, go_sem, zE, r0, r1, r2, r3, r4]) rfl ⟨by rw [show ((i + 3 : Nat) : Int) = (i : Int) + 3 by omega], HF.out⟩
set_option maxRecDepth 100000 in
set_option maxHeartbeats 2000000 in
theorem rlen_ok {w : World} {l : TL} {v : Value} (hT : TokL w w.heap.size v l) (_hll : l.length ≤ 1000000) (i : Nat) (_hi : i ≤ l.length) (hs : sgAt l (i + 1) = [40]) (hl : i + 2 < l.length) (hn : nmTok (tkAt l (i + 2)) = true) (hs3 : sgAt l (i + 3) = [41]) :
    Calls Tryz.prog 131 #[v, .int .i64 (i : Int)] w (PostP w (.ok ⟨7, 0, 0, (tkAt l (i + 2)).2, []⟩ (i + 4))) := by
  have q1 : (sgAt l (i + 1) == [40]) = true := by rw [hs]; rfl
  have q3 : (sgAt l (i + 3) == [41]) = true := by rw [hs3]; rfl
  obtain ⟨A, c, rfl⟩ := hT.val
  have HT0 := Lib.hid (fun o => tokU hT (S3.bal w o))
  have Q := Lib.hid (fun a0 a1 a2 a3 a4 => R5.new w a0 a1 a2 a3 a4)
  clear hT
  go_enter Tryz.func131, Tryz.ntmps131
  try simp only [List.append_eq, List.cons_append, List.nil_append]
  go_wp2_with fail
  refine (rsg_is (HT0.out _) q1 (by simp) (by omega)).mono ?_
  rintro E w1 ⟨rfl, hb⟩
  have HB1 := Lib.hid (hb)
  have HT1 := Lib.hid (tokU (HT0.out _) hb)
  clear hb
  obtain ⟨_, htl, tb, og, ta, rfl, htb, t0, t1, t2⟩ := HT1.out.at3 (i + 2) hl
  have hge : ¬ (l.length : Int) ≤ (i : Int) + 2 := by omega
  go_wp2_with fail
  refine (rnm_calls _ _ _ htl _).mono ?_
  rintro E w2 ⟨rfl, hb⟩
  rw [show nmTok ((tkAt l (i + 2)).1, (tkAt l (i + 2)).2) = true from hn]
  have HB2 := Lib.hid (after HB1.out hb)
  have HT2 := Lib.hid (tokU HT1.out hb)
  clear hb
  go_wp2_with fail
  refine (rsg_is HT2.out q3 (by simp) (by omega)).mono ?_
  rintro E w3 ⟨rfl, hb⟩
  have HB3 := Lib.hid (after HB2.out hb)
  have HT3 := Lib.hid (tokU HT2.out hb)
  clear hb
  obtain ⟨_, _, tb', og', ta', e9, htb3, u0, u1, u2⟩ := HT3.out.at3 (i + 2) hl
  cases e9
  have HO := Lib.hid (okE_leaf (k := 7) (n := 0) (s := (tkAt l (i + 2)).2) (by decide) (by unfold S3.okI; omega) htl)
  clear t0 t1 t2 u0 u2 hn hs hs3 q1 q3
  generalize (tkAt l (i + 2)).2 = s at *
  obtain ⟨z0, z1, z2, z3, z4, r0, r1, r2, r3, r4, y0, y1, y2, y3, y4⟩ := ((Q.out _ _ _ _ _).bel HB3.out).facts
  have hq1 := ((Q.out _ _ _ _ _).bel HB3.out).lt
  have HF := Lib.hid (parse_fin ⟨7, 0, 0, s, []⟩ none 0 0 HB3.out (er_nil _ _))
  go_wp2_with fail
  exact bodyPost_ret (v := .tuple #[S3.eV ⟨7, 0, 0, s, []⟩ (.slice none 0 0), .int .i64 ((i : Int) + 4), .int .i64 0]) (by simp [results, Tryz.results131, go_sem, r0, r1, r2, r3, r4]) rfl ⟨none, 0, 0, by rw [show ((i + 4 : Nat) : Int) = (i : Int) + 4 by omega], HO.out, HF.out.1, HF.out.2⟩
theorem rlen_calls {w : World} {l : TL} {v : Value} (hT : TokL w w.heap.size v l) (hll : l.length ≤ 1000000) (i : Nat) (hi : i ≤ l.length) :
    Calls Tryz.prog 131 #[v, .int .i64 (i : Int)] w (PostP w (lenR l i)) := by
  unfold lenR
  by_cases h1 : sgAt l (i + 1) = [40]
  · rw [if_pos h1]
    rcases Nat.lt_or_ge (i + 2) l.length with h2 | h2
    · cases hn : nmTok (tkAt l (i + 2)) with
      | false => exact rlen_name hT hll i hi h1 h2 hn
      | true =>
        rw [if_pos rfl]
        by_cases h3 : sgAt l (i + 3) = [41]
        · rw [if_pos h3]; exact rlen_ok hT hll i hi h1 h2 hn h3
        · rw [if_neg h3]; exact rlen_shut hT hll i hi h1 h2 hn h3
    · rw [tk_out h2, if_neg (by decide)]
      exact rlen_end hT hll i hi h1 h2
  · rw [if_neg h1]; exact rlen_open hT hll i hi h1
abbrev OPR (l : TL) (v : Value) (i d : Nat) : Prop := ∀ W, TokL W W.heap.size v l → Calls Tryz.prog 81 #[v, .int .i64 (i : Int), .int .i64 (d : Int)] W (PostP W (opdR l i d))
abbrev BIR (l : TL) (v : Value) (i d : Nat) (m : Int) : Prop := ∀ W, TokL W W.heap.size v l → Calls Tryz.prog 45 #[v, .int .i64 (i : Int), .int .i64 (d : Int), .int .i64 m] W (PostP W (binR l i d m))
set_option maxRecDepth 100000 in
set_option maxHeartbeats 2000000 in
theorem rix_deep {w : World} {l : TL} {v : Value} (hT : TokL w w.heap.size v l) (_hll : l.length ≤ 1000000) (i : Nat) (_hi : i ≤ l.length) (d : Nat) (_hd : d ≤ 9223372036854775807) (h40 : 40 ≤ d) :
    Calls Tryz.prog 133 #[v, .int .i64 (i : Int), .int .i64 (d : Int)] w (PostP w (.bad (i + 1) 8)) := by
  have h40' : (40 : Int) ≤ (d : Int) := by omega
  have HT0 := Lib.hid (fun o => tokU hT (S3.bal w o))
  have Q := Lib.hid (fun a0 a1 a2 a3 a4 => R5.new w a0 a1 a2 a3 a4)
  clear hT
  go_enter Tryz.func133, Tryz.ntmps133
  try simp only [List.append_eq, List.cons_append, List.nil_append]
  go_wp2_with fail
  exact bodyPost_ret (v := .tuple #[S3.eV zE (.slice none 0 0), .int .i64 ((i : Int) + 1), .int .i64 8]) (by simp [results, Tryz.results133, go_sem, zE]) rfl ⟨by rw [show ((i + 1 : Nat) : Int) = (i : Int) + 1 by omega], S3.bal w _⟩
set_option maxRecDepth 100000 in
set_option maxHeartbeats 2000000 in
theorem rix_bad {w : World} {l : TL} {v : Value} (hT : TokL w w.heap.size v l) (_hll : l.length ≤ 1000000) (i : Nat) (_hi : i ≤ l.length) (d : Nat) (_hd : d ≤ 9223372036854775807) (h40 : d < 40) (C : BIR l v (i + 2) (d + 1) 1) (j : Nat) (c : Int) (hc : c ≠ 0) (hr : binR l (i + 2) (d + 1) 1 = .bad j c) :
    Calls Tryz.prog 133 #[v, .int .i64 (i : Int), .int .i64 (d : Int)] w (PostP w (.bad j c)) := by
  have h40' : ¬ (40 : Int) ≤ (d : Int) := by omega
  have C := Lib.hid C
  have HT0 := Lib.hid (fun o => tokU hT (S3.bal w o))
  have Q := Lib.hid (fun a0 a1 a2 a3 a4 => R5.new w a0 a1 a2 a3 a4)
  clear hT
  go_enter Tryz.func133, Tryz.ntmps133
  try simp only [List.append_eq, List.cons_append, List.nil_append]
  go_wp2_with fail
  rw [show (i : Int) + 2 = ((i + 2 : Nat) : Int) by omega, show (d : Int) + 1 = ((d + 1 : Nat) : Int) by omega]
  have C1 := C.out (w.alloc zO) (HT0.out zO)
  rw [hr] at C1
  refine C1.mono ?_
  clear C1
  rintro E w1 ⟨rfl, hb⟩
  have HB1 := Lib.hid hb
  have hq : (c == 0) = false := beq_eq_false_iff_ne.2 hc
  clear hb
  obtain ⟨z0, z1, z2, z3, z4, r0, r1, r2, r3, r4, y0, y1, y2, y3, y4⟩ := ((Q.out _ _ _ _ _).bel HB1.out).facts
  have hq1 := ((Q.out _ _ _ _ _).bel HB1.out).lt
  have S5 := fun o => put5_al ((Q.out _ _ _ _ _).bel HB1.out) (.int .i64 0) (.int .i64 0) (.int .i64 0) (.string ⟨#[]⟩) (.slice none 0 0) o
  have s0 := fun o => (S5 o).1
  have s1 := fun o => (S5 o).2.1
  have s2 := fun o => (S5 o).2.2.1
  have s3 := fun o => (S5 o).2.2.2.1
  have s4 := fun o => (S5 o).2.2.2.2
  have HF := Lib.hid (fun o => Below.alloc (parse_fin zE none 0 0 HB1.out (zE_in _ _)).2 (by rw [put5_size]; omega) o)
  clear S5
  go_wp2_with fail
  exact bodyPost_ret (v := .tuple #[S3.eV zE (.slice none 0 0), .int .i64 (j : Int), .int .i64 c]) (by simp [results, Tryz.results133, go_sem, zE, s0, s1, s2, s3, s4]) rfl ⟨rfl, HF.out _⟩
set_option maxRecDepth 100000 in
set_option maxHeartbeats 2000000 in
theorem rix_no {w : World} {l : TL} {v : Value} (hT : TokL w w.heap.size v l) (_hll : l.length ≤ 1000000) (i : Nat) (_hi : i ≤ l.length) (d : Nat) (_hd : d ≤ 9223372036854775807) (h40 : d < 40) (C : BIR l v (i + 2) (d + 1) 1) (e : Ex) (n : Nat) (hr : binR l (i + 2) (d + 1) 1 = .ok e n) (hs : sgAt l n ≠ [93]) :
    Calls Tryz.prog 133 #[v, .int .i64 (i : Int), .int .i64 (d : Int)] w (PostP w (.bad n 7)) := by
  have h40' : ¬ (40 : Int) ≤ (d : Int) := by omega
  have C := Lib.hid C
  have qn : (sgAt l n == [93]) = false := beq_eq_false_iff_ne.2 hs
  have HT0 := Lib.hid (fun o => tokU hT (S3.bal w o))
  have Q := Lib.hid (fun a0 a1 a2 a3 a4 => R5.new w a0 a1 a2 a3 a4)
  clear hT
  go_enter Tryz.func133, Tryz.ntmps133
  try simp only [List.append_eq, List.cons_append, List.nil_append]
  go_wp2_with fail
  rw [show (i : Int) + 2 = ((i + 2 : Nat) : Int) by omega, show (d : Int) + 1 = ((d + 1 : Nat) : Int) by omega]
  have C1 := C.out (w.alloc zO) (HT0.out zO)
  rw [hr] at C1
  refine C1.mono ?_
  clear C1
  rintro E w1 ⟨A, k, c, rfl, ho, hE, hb⟩
  rw [S3.sz1] at hE
  have HB1 := Lib.hid hb
  have HT1 := Lib.hid (tokU (HT0.out _) hb)
  have HE1 := Lib.hid hE
  have HO1 := Lib.hid ho
  have X1 := Lib.hid (S3.EBox.new w1 e (.slice A k c))
  have hz1 := hb.size
  rw [S3.sz1] at hz1
  clear hb hE ho
  go_wp2_with fail
  have HT1e := Lib.hid (tokU HT1.out (S3.bal w1 (S3.eO e (.slice A k c))))
  refine (rsg_is HT1e.out qn (by simp) (by omega)).mono ?_
  rintro E w2 ⟨rfl, hb⟩
  have HB2 := Lib.hid (after (after HB1.out (S3.bal w1 (S3.eO e (.slice A k c)))) hb)
  have HT2 := Lib.hid (tokU HT1e.out hb)
  have X2 := X1.out.keep hb (by simp)
  obtain ⟨x0, x1, x2, x3, x4⟩ := X2
  have HE2 := Lib.hid (er_bel (er_bel HE1.out (S3.bal w1 (S3.eO e (.slice A k c)))) hb)
  have hz2 : w1.heap.size < w2.heap.size := by have := hb.size; rw [S3.sz1] at this; omega
  clear hb
  obtain ⟨z0, z1, z2, z3, z4, r0, r1, r2, r3, r4, y0, y1, y2, y3, y4⟩ := ((Q.out _ _ _ _ _).bel HB2.out).facts
  have hq1 := ((Q.out _ _ _ _ _).bel HB2.out).lt
  have HF := Lib.hid (parse_fin zE none 0 0 HB2.out (zE_in _ _)).2
  go_wp2_with fail
  exact bodyPost_ret (v := .tuple #[S3.eV zE (.slice none 0 0), .int .i64 (n : Int), .int .i64 7]) (by simp [results, Tryz.results133, go_sem, zE, r0, r1, r2, r3, r4]) rfl ⟨rfl, HF.out⟩
end Go.Proofs.YtlhifbckmknijaaGreatDoor.E5
