/-
  The document's own reading of expressions: index with its expression: contracts. Written by gen5_ref.py.
-/
import Derived.Test.YtlhifbckmknijaaGreatDoorERef2
import Derived.BigRegion
import Derived.Deep.RegionWith
import Derived.Deep.RegionHeld3
namespace Go.Proofs.YtlhifbckmknijaaGreatDoor.E5
open Go Go.RowKit Go.Proofs.YtlhifbckmknijaaGreatDoor

set_option maxRecDepth 100000 in
set_option maxHeartbeats 8000000 in
theorem rix_yes {w : World} {l : TL} {v : Value} (hT : TokL w w.heap.size v l) (_hll : l.length ≤ 1000000) (i : Nat) (_hi : i ≤ l.length) (d : Nat) (_hd : d ≤ 9223372036854775807) (h40 : d < 40) (C : BIR l v (i + 2) (d + 1) 1) (e : Ex) (n : Nat) (hr : binR l (i + 2) (d + 1) 1 = .ok e n) (hil : i < l.length) (hnl : n ≤ l.length) (hs : sgAt l n = [93]) (hx : S3.exB ⟨6, 0, 0, (tkAt l i).2, [e]⟩ = true) :
    Calls Tryz.prog 133 #[v, .int .i64 (i : Int), .int .i64 (d : Int)] w (PostP w (.ok ⟨6, 0, 0, (tkAt l i).2, [e]⟩ (n + 1))) := by
  have h40' : ¬ (40 : Int) ≤ (d : Int) := by omega
  have C := Lib.hid C
  have qn : (sgAt l n == [93]) = true := by rw [hs]; rfl
  obtain ⟨A, c, rfl⟩ := hT.val
  have HTW := Lib.hid hT
  have HT0 := Lib.hid (fun o => tokU hT (S3.bal w o))
  have Q := Lib.hid (fun a0 a1 a2 a3 a4 => R5.new w a0 a1 a2 a3 a4)
  clear hT
  go_enter Tryz.func133, Tryz.ntmps133
  try simp only [List.append_eq, List.cons_append, List.nil_append]
  go_wp2_with fail
  rw [show (i : Int) + 2 = ((i + 2 : Nat) : Int) by omega, show (d : Int) + 1 = ((d + 1 : Nat) : Int) by omega]
  have C1 := C.out (w.alloc zO) (HT0.out zO)
  rw [hr] at C1
  refine C1.mono ?_
  clear C1
  rintro E w1 ⟨A, k, c, rfl, ho, hE, hb⟩
  rw [S3.sz1] at hE
  have HB1 := Lib.hid hb
  have HT1 := Lib.hid (tokU (HT0.out _) hb)
  have HE1 := Lib.hid hE
  have HO1 := Lib.hid ho
  have X1 := Lib.hid (S3.EBox.new w1 e (.slice A k c))
  have hz1 := hb.size
  rw [S3.sz1] at hz1
  clear hb hE ho
  go_wp2_with fail
  have HT1e := Lib.hid (tokU HT1.out (S3.bal w1 (S3.eO e (.slice A k c))))
  refine (rsg_is HT1e.out qn (by simp) (by omega)).mono ?_
  rintro E w2 ⟨rfl, hb⟩
  have HB2 := Lib.hid (after (after HB1.out (S3.bal w1 (S3.eO e (.slice A k c)))) hb)
  have HT2 := Lib.hid (tokU HT1e.out hb)
  have X2 := X1.out.keep hb (by simp)
  obtain ⟨x0, x1, x2, x3, x4⟩ := X2
  have HE2 := Lib.hid (er_bel (er_bel HE1.out (S3.bal w1 (S3.eO e (.slice A k c)))) hb)
  have hz2 : w1.heap.size < w2.heap.size := by have := hb.size; rw [S3.sz1] at this; omega
  clear hb
  obtain ⟨_, htl, tb, og, ta, e9, htb, t0, t1, t2⟩ := HT2.out.at3 i (by omega)
  cases e9
  clear t0 t2
  have HO6 := Lib.hid (okE_op (k := 6) (s := (tkAt l i).2) (args := [e]) (by decide) (okI_small (Int.le_refl 0) (by decide)) htl)
  generalize (tkAt l i).2 = s at *
  have htw : tb < w.heap.size := by
    obtain ⟨_, _, tb', og', ta', e8, htb', _⟩ := HTW.out.at3 i (by omega)
    cases e8
    exact htb'
  have hbd := bal_dr2 w2
  have hS0 := Lib.hid (IxS.mk (W := w2) (tb := tb) (o := og + i * 3 + 1) (q := w1.heap.size) (s := s) (e := e) (va := .slice A k c) t1 ⟨x0, x1, x2, x3, x4⟩ |>.bel hbd htb hz2)
  have HEd := Lib.hid (er_bel HE2.out hbd)
  have HBd := Lib.hid (after HB2.out hbd)
  have hqt := fun W1 (h : Hid (IxS W1 tb (og + i * 3 + 1) w1.heap.size s e (.slice A k c))) => h.out.t
  have hq0 := fun W1 (h : Hid (IxS W1 tb (og + i * 3 + 1) w1.heap.size s e (.slice A k c))) => h.out.x.c0
  have hq1 := fun W1 (h : Hid (IxS W1 tb (og + i * 3 + 1) w1.heap.size s e (.slice A k c))) => h.out.x.c1
  have hq2 := fun W1 (h : Hid (IxS W1 tb (og + i * 3 + 1) w1.heap.size s e (.slice A k c))) => h.out.x.c2
  have hq3 := fun W1 (h : Hid (IxS W1 tb (og + i * 3 + 1) w1.heap.size s e (.slice A k c))) => h.out.x.c3
  have hq4 := fun W1 (h : Hid (IxS W1 tb (og + i * 3 + 1) w1.heap.size s e (.slice A k c))) => h.out.x.c4
  have qn1 : IntKind.i64.wrap ((n : Int) + 1) = (n : Int) + 1 := IntWalk.i64_in _ (by omega)
  have hil2 : (i : Int) < (l.length : Int) := by omega
  clear hbd t1 x0 x1 x2 x3 x4 HB2 HE2 HT2
  go_wp2_with fail
  refine wp_region_noPanic ?_
  refine wp_region_held_drew (S := fun W1 => Hid (IxS W1 tb (og + i * 3 + 1) w1.heap.size s e (.slice A k c))) (by kernel_rfl) hS0 (fun hHeld => ?_)
  clear hS0
  have HSD := Lib.hid (show w2.drew.heap.size = w2.heap.size from rfl)
  generalize w2.drew = wd at *
  refine wpAnyH_take (i := 0) (oi := { dst := some 38, op := Go.Op.move (Go.Operand.tmp 0), type := 34, pos := "ref.go:67", after := #[], guard := none }) (v := ?_) rfl (by as_aux_lemma => kernel_rfl) (by as_aux_lemma => kernel_rfl) (by as_aux_lemma => kernel_rfl) (fun _ _ _ h => h) (Or.inl ⟨by rfl, ?_⟩) hHeld ?_
  rotate_left
  · (intro w hSw; (try dsimp only at hSw); go_simp; try with_reducible rfl)
  try simp only [Act.put, List.setIfInBounds_toArray, List.set_cons_zero, List.set_cons_succ]
  refine wpAnyH_take (i := 1) (oi := { dst := some 39, op := Go.Op.move (Go.Operand.tmp 1), type := 3, pos := "ref.go:67", after := #[], guard := none }) (v := ?_) rfl (by as_aux_lemma => kernel_rfl) (by as_aux_lemma => kernel_rfl) (by as_aux_lemma => kernel_rfl) (fun _ _ _ h => h) (Or.inl ⟨by rfl, ?_⟩) hHeld ?_
  rotate_left
  · (intro w hSw; (try dsimp only at hSw); go_simp; try with_reducible rfl)
  try simp only [Act.put, List.setIfInBounds_toArray, List.set_cons_zero, List.set_cons_succ]
  refine wpAnyH_take (i := 2) (oi := { dst := some 40, op := Go.Op.indexAddr 34 (Go.Operand.tmp 38) (Go.Operand.tmp 39), type := 0, pos := "ref.go:67", after := #[{ on := 0, ground := Go.Ground.data }, { on := 1, ground := Go.Ground.data }], guard := none }) (v := ?_) rfl (by as_aux_lemma => kernel_rfl) (by as_aux_lemma => kernel_rfl) (by as_aux_lemma => kernel_rfl) (fun _ _ _ h => h) (Or.inl ⟨by rfl, ?_⟩) hHeld ?_
  rotate_left
  · (intro w hSw; (try dsimp only at hSw); go_simp; try with_reducible rfl)
  try simp only [Act.put, List.setIfInBounds_toArray, List.set_cons_zero, List.set_cons_succ]
  refine wpAnyH_take (i := 3) (oi := { dst := some 41, op := Go.Op.fieldAddr 89 (Go.Operand.tmp 40) 1, type := 0, pos := "ref.go:67", after := #[{ on := 2, ground := Go.Ground.data }], guard := none }) (v := ?_) rfl (by as_aux_lemma => kernel_rfl) (by as_aux_lemma => kernel_rfl) (by as_aux_lemma => kernel_rfl) (fun _ _ _ h => h) (Or.inl ⟨by rfl, ?_⟩) hHeld ?_
  rotate_left
  · (intro w hSw; (try dsimp only at hSw); go_simp; try with_reducible rfl)
  try simp only [Act.put, List.setIfInBounds_toArray, List.set_cons_zero, List.set_cons_succ]
  refine wpAnyH_take (i := 4) (oi := { dst := some 42, op := Go.Op.load 9 (Go.Operand.tmp 41), type := 9, pos := "ref.go:67", after := #[{ on := 3, ground := Go.Ground.data }], guard := none }) (v := ?_) rfl (by as_aux_lemma => kernel_rfl) (by as_aux_lemma => kernel_rfl) (by as_aux_lemma => kernel_rfl) (fun _ _ _ h => h) (Or.inl ⟨by rfl, ?_⟩) hHeld ?_
  rotate_left
  · (intro w hSw; (try dsimp only at hSw); go_simp; try with_reducible rfl)
  try simp only [Act.put, List.setIfInBounds_toArray, List.set_cons_zero, List.set_cons_succ]
  refine wpAnyH_take (i := 5) (oi := { dst := some 43, op := Go.Op.load 29 (Go.Operand.tmp 9), type := 29, pos := "ref.go:67", after := #[], guard := none }) (v := ?_) rfl (by as_aux_lemma => kernel_rfl) (by as_aux_lemma => kernel_rfl) (by as_aux_lemma => kernel_rfl) (fun _ _ _ h => h) (Or.inl ⟨by rfl, ?_⟩) hHeld ?_
  rotate_left
  · (intro w hSw; (try dsimp only at hSw); go_simp; try with_reducible rfl)
  try simp only [Act.put, List.setIfInBounds_toArray, List.set_cons_zero, List.set_cons_succ]
  refine wpAnyH_take (i := 8) (oi := { dst := some 46, op := Go.Op.move (Go.Operand.tmp 10), type := 3, pos := "ref.go:67", after := #[], guard := none }) (v := ?_) rfl (by as_aux_lemma => kernel_rfl) (by as_aux_lemma => kernel_rfl) (by as_aux_lemma => kernel_rfl) (fun _ _ _ h => h) (Or.inl ⟨by rfl, ?_⟩) hHeld ?_
  rotate_left
  · (intro w hSw; (try dsimp only at hSw); go_simp; try with_reducible rfl)
  try simp only [Act.put, List.setIfInBounds_toArray, List.set_cons_zero, List.set_cons_succ]
  refine wpAnyH_take (i := 9) (oi := { dst := some 47, op := Go.Op.binOp Go.BinOp.add 3 (Go.Operand.tmp 46) (Go.Operand.const (Go.Value.int Go.IntKind.i64 1)) 3, type := 3, pos := "ref.go:67", after := #[{ on := 8, ground := Go.Ground.data }], guard := none }) (v := ?_) rfl (by as_aux_lemma => kernel_rfl) (by as_aux_lemma => kernel_rfl) (by as_aux_lemma => kernel_rfl) (fun _ _ _ h => h) (Or.inl ⟨by rfl, ?_⟩) hHeld ?_
  rotate_left
  · (intro w hSw; (try dsimp only at hSw); go_simp; try with_reducible rfl)
  try simp only [Act.put, List.setIfInBounds_toArray, List.set_cons_zero, List.set_cons_succ]
  have hSa := Lib.hid (hHeld.out.bel (S3.bal wd (S3.eO e (.slice A k c))) (by rw [HSD.out]; omega) (by rw [HSD.out]; omega))
  have HE3 := Lib.hid (er_one HO1.out (n := w.heap.size + 1) (by have := HBd.out.size; rw [S3.sz1] at this; omega) HEd.out)
  have HB3 := Lib.hid (after HBd.out (S3.bal wd (S3.eO e (.slice A k c))))
  refine wpAnyH_ready (rs := [6]) (by as_aux_lemma => kernel_rfl) (List.cons_ne_nil _ _) ?_
  refine AllReadyH.cons (o := { dst := some 44, op := Go.Op.buildSlice 27 1 #[(0, Go.Operand.tmp 43)], type := 27, pos := "ref.go:67", after := #[{ on := 5, ground := Go.Ground.data }], guard := none }) rfl (fun K hK => ?_) AllReadyH.nil
  go_simp
  refine hK.out _ _ hSa (fun hHeld2 => ?_)
  clear hK K hHeld
  have hHeld := hHeld2
  clear hHeld2
  try simp only [Act.put, List.setIfInBounds_toArray, List.set_cons_zero, List.set_cons_succ]
  generalize hwe : wd.alloc (.cells #[.int .i64 e.kind, .int .i64 e.op, .int .i64 e.num, .string (S3.B e.name), .slice A k c] 29) = we at *
  have HWE := Lib.hid hwe
  clear hwe
  refine wpAnyH_ready (rs := [7]) (by as_aux_lemma => kernel_rfl) (List.cons_ne_nil _ _) ?_
  refine AllReadyH.cons (o := { dst := some 45, op := Go.Op.build 29 #[(0, Go.Operand.const (Go.Value.int Go.IntKind.i64 6)), (3, Go.Operand.tmp 42), (4, Go.Operand.tmp 44)], type := 29, pos := "ref.go:67", after := #[{ on := 4, ground := Go.Ground.data }, { on := 6, ground := Go.Ground.data }], guard := none }) rfl (fun K hK => ?_) AllReadyH.nil
  go_simp
  refine hK.out _ _ hHeld (fun _ => ?_)
  clear hK K
  try simp only [Act.put, List.setIfInBounds_toArray, List.set_cons_zero, List.set_cons_succ]
  refine wpAnyH_ready (rs := [10]) (by as_aux_lemma => kernel_rfl) (List.cons_ne_nil _ _) ?_
  refine AllReadyH.cons (o := { dst := some 48, op := Go.Op.call { callee := Go.Callee.value (Go.Operand.func 83), args := #[Go.Operand.tmp 45, Go.Operand.tmp 47], argTypes := #[29, 3] }, type := 31, pos := "ref.go:67", after := #[{ on := 7, ground := Go.Ground.data }, { on := 9, ground := Go.Ground.data }], guard := none }) rfl (fun K hK => ?_) AllReadyH.nil
  go_simp
  refine (rmade_yes ⟨6, 0, 0, s, [e]⟩ HO6.out hx _ 1 1 ((n : Int) + 1) (by omega) (by omega) we (er_in HE3.out (Nat.le_refl _))).mono ?_
  rintro E w4 ⟨rfl, hb⟩
  have HB4 := Lib.hid (after HB3.out hb)
  have HE4 := Lib.hid (er_bel HE3.out hb)
  have hS4 := Lib.hid (hHeld.out.bel hb (by rw [← HWE.out, S3.sz1, HSD.out]; omega) (by rw [← HWE.out, S3.sz1, HSD.out]; omega))
  clear hb
  go_wp2_with fail
  refine hK.out _ _ hS4 (fun hHeld2 => ?_)
  clear hK K hHeld
  have hHeld := hHeld2
  clear hHeld2
  try simp only [Act.put, List.setIfInBounds_toArray, List.set_cons_zero, List.set_cons_succ]
  refine wpAnyH_take (i := 11) (oi := { dst := some 49, op := Go.Op.extract (Go.Operand.tmp 48) 0, type := 29, pos := "ref.go:67", after := #[{ on := 10, ground := Go.Ground.data }], guard := none }) (v := ?_) rfl (by as_aux_lemma => kernel_rfl) (by as_aux_lemma => kernel_rfl) (by as_aux_lemma => kernel_rfl) (fun _ _ _ h => h) (Or.inl ⟨by rfl, ?_⟩) hHeld ?_
  rotate_left
  · (intro w hSw; (try dsimp only at hSw); go_simp; try with_reducible rfl)
  try simp only [Act.put, List.setIfInBounds_toArray, List.set_cons_zero, List.set_cons_succ]
  refine wpAnyH_take (i := 12) (oi := { dst := some 50, op := Go.Op.extract (Go.Operand.tmp 48) 1, type := 3, pos := "ref.go:67", after := #[{ on := 10, ground := Go.Ground.data }], guard := none }) (v := ?_) rfl (by as_aux_lemma => kernel_rfl) (by as_aux_lemma => kernel_rfl) (by as_aux_lemma => kernel_rfl) (fun _ _ _ h => h) (Or.inl ⟨by rfl, ?_⟩) hHeld ?_
  rotate_left
  · (intro w hSw; (try dsimp only at hSw); go_simp; try with_reducible rfl)
  try simp only [Act.put, List.setIfInBounds_toArray, List.set_cons_zero, List.set_cons_succ]
  refine wpAnyH_take (i := 13) (oi := { dst := some 51, op := Go.Op.extract (Go.Operand.tmp 48) 2, type := 30, pos := "ref.go:67", after := #[{ on := 10, ground := Go.Ground.data }], guard := none }) (v := ?_) rfl (by as_aux_lemma => kernel_rfl) (by as_aux_lemma => kernel_rfl) (by as_aux_lemma => kernel_rfl) (fun _ _ _ h => h) (Or.inl ⟨by rfl, ?_⟩) hHeld ?_
  rotate_left
  · (intro w hSw; (try dsimp only at hSw); go_simp; try with_reducible rfl)
  try simp only [Act.put, List.setIfInBounds_toArray, List.set_cons_zero, List.set_cons_succ]
  refine wpAnyH_ready (rs := [14]) (by as_aux_lemma => kernel_rfl) (List.cons_ne_nil _ _) ?_
  refine AllReadyH.cons (o := { dst := none, op := Go.Op.store 29 (Go.Operand.tmp 6) (Go.Operand.tmp 49), type := 0, pos := "ref.go:67", after := #[{ on := 11, ground := Go.Ground.data }, { on := 10, ground := Go.Ground.chain }, { on := 0, ground := Go.Ground.phase }, { on := 1, ground := Go.Ground.phase }, { on := 2, ground := Go.Ground.phase }, { on := 3, ground := Go.Ground.phase }, { on := 4, ground := Go.Ground.phase }, { on := 5, ground := Go.Ground.phase }, { on := 6, ground := Go.Ground.phase }, { on := 7, ground := Go.Ground.phase }, { on := 8, ground := Go.Ground.phase }, { on := 9, ground := Go.Ground.phase }, { on := 10, ground := Go.Ground.phase }, { on := 11, ground := Go.Ground.phase }, { on := 12, ground := Go.Ground.phase }, { on := 13, ground := Go.Ground.phase }], guard := none }) rfl (fun K hK => ?_) AllReadyH.nil
  obtain ⟨z0, z1, z2, z3, z4, r0, r1, r2, r3, r4, y0, y1, y2, y3, y4⟩ := ((Q.out _ _ _ _ _).bel HB4.out).facts
  have hq1 := ((Q.out _ _ _ _ _).bel HB4.out).lt
  have hSp := Lib.hid (hHeld.out.put (z := w.heap.size) (.int .i64 6) (.int .i64 0) (.int .i64 0) (.string (S3.B s)) (.slice (some ⟨wd.heap.size, 0, none⟩) 1 1) (by omega) (by omega))
  have HF := Lib.hid (parse_fin ⟨6, 0, 0, s, [e]⟩ (some ⟨wd.heap.size, 0, none⟩) 1 1 HB4.out HE4.out)
  go_wp2_with fail
  refine hK.out _ _ hSp (fun _ => ?_)
  clear hK K
  try simp only [Act.put, List.setIfInBounds_toArray, List.set_cons_zero, List.set_cons_succ]
  clear hHeld
  have hHeld := hSp
  refine wpAnyH_ready (rs := [15]) (by as_aux_lemma => kernel_rfl) (List.cons_ne_nil _ _) ?_
  refine AllReadyH.cons (o := { dst := some 7, op := Go.Op.assign (Go.Operand.tmp 50), type := 3, pos := "ref.go:67", after := #[{ on := 12, ground := Go.Ground.data }, { on := 14, ground := Go.Ground.chain }, { on := 0, ground := Go.Ground.phase }, { on := 1, ground := Go.Ground.phase }, { on := 2, ground := Go.Ground.phase }, { on := 3, ground := Go.Ground.phase }, { on := 4, ground := Go.Ground.phase }, { on := 5, ground := Go.Ground.phase }, { on := 6, ground := Go.Ground.phase }, { on := 7, ground := Go.Ground.phase }, { on := 8, ground := Go.Ground.phase }, { on := 9, ground := Go.Ground.phase }, { on := 10, ground := Go.Ground.phase }, { on := 11, ground := Go.Ground.phase }, { on := 12, ground := Go.Ground.phase }, { on := 13, ground := Go.Ground.phase }, { on := 14, ground := Go.Ground.phase }], guard := none }) rfl (fun K hK => ?_) AllReadyH.nil
  go_simp
  refine hK.out _ _ hHeld (fun _ => ?_)
  clear hK K
  try simp only [Act.put, List.setIfInBounds_toArray, List.set_cons_zero, List.set_cons_succ]
  refine wpAnyH_ready (rs := [16]) (by as_aux_lemma => kernel_rfl) (List.cons_ne_nil _ _) ?_
  refine AllReadyH.cons (o := { dst := some 8, op := Go.Op.assign (Go.Operand.tmp 51), type := 30, pos := "ref.go:67", after := #[{ on := 13, ground := Go.Ground.data }, { on := 15, ground := Go.Ground.chain }, { on := 0, ground := Go.Ground.phase }, { on := 1, ground := Go.Ground.phase }, { on := 2, ground := Go.Ground.phase }, { on := 3, ground := Go.Ground.phase }, { on := 4, ground := Go.Ground.phase }, { on := 5, ground := Go.Ground.phase }, { on := 6, ground := Go.Ground.phase }, { on := 7, ground := Go.Ground.phase }, { on := 8, ground := Go.Ground.phase }, { on := 9, ground := Go.Ground.phase }, { on := 10, ground := Go.Ground.phase }, { on := 11, ground := Go.Ground.phase }, { on := 12, ground := Go.Ground.phase }, { on := 13, ground := Go.Ground.phase }, { on := 14, ground := Go.Ground.phase }, { on := 15, ground := Go.Ground.phase }], guard := none }) rfl (fun K hK => ?_) AllReadyH.nil
  go_simp
  refine hK.out _ _ hHeld (fun _ => ?_)
  clear hK K
  try simp only [Act.put, List.setIfInBounds_toArray, List.set_cons_zero, List.set_cons_succ]
  refine wpAnyH_done (by kernel_rfl) ?_ _
  refine NoPanic.normal ?_
  go_wp2_with fail
  exact bodyPost_ret (v := .tuple #[S3.eV ⟨6, 0, 0, s, [e]⟩ (.slice (some ⟨wd.heap.size, 0, none⟩) 1 1), .int .i64 ((n : Int) + 1), .int .i64 0]) (by simp [results, Tryz.results133, go_sem, r0, r1, r2, r3, r4]) rfl ⟨_, 1, 1, by rw [show ((n + 1 : Nat) : Int) = (n : Int) + 1 by omega], HO6.out, HF.out.1, HF.out.2⟩
set_option maxRecDepth 100000 in
set_option maxHeartbeats 8000000 in
theorem rix_made {w : World} {l : TL} {v : Value} (hT : TokL w w.heap.size v l) (_hll : l.length ≤ 1000000) (i : Nat) (_hi : i ≤ l.length) (d : Nat) (_hd : d ≤ 9223372036854775807) (h40 : d < 40) (C : BIR l v (i + 2) (d + 1) 1) (e : Ex) (n : Nat) (hr : binR l (i + 2) (d + 1) 1 = .ok e n) (hil : i < l.length) (hnl : n ≤ l.length) (hs : sgAt l n = [93]) (hx : S3.exB ⟨6, 0, 0, (tkAt l i).2, [e]⟩ = false) :
    Calls Tryz.prog 133 #[v, .int .i64 (i : Int), .int .i64 (d : Int)] w (PostP w (.bad n 8)) := by
  have h40' : ¬ (40 : Int) ≤ (d : Int) := by omega
  have C := Lib.hid C
  have qn : (sgAt l n == [93]) = true := by rw [hs]; rfl
  obtain ⟨A, c, rfl⟩ := hT.val
  have HTW := Lib.hid hT
  have HT0 := Lib.hid (fun o => tokU hT (S3.bal w o))
  have Q := Lib.hid (fun a0 a1 a2 a3 a4 => R5.new w a0 a1 a2 a3 a4)
  clear hT
  go_enter Tryz.func133, Tryz.ntmps133
  try simp only [List.append_eq, List.cons_append, List.nil_append]
  go_wp2_with fail
  rw [show (i : Int) + 2 = ((i + 2 : Nat) : Int) by omega, show (d : Int) + 1 = ((d + 1 : Nat) : Int) by omega]
  have C1 := C.out (w.alloc zO) (HT0.out zO)
  rw [hr] at C1
  refine C1.mono ?_
  clear C1
  rintro E w1 ⟨A, k, c, rfl, ho, hE, hb⟩
  rw [S3.sz1] at hE
  have HB1 := Lib.hid hb
  have HT1 := Lib.hid (tokU (HT0.out _) hb)
  have HE1 := Lib.hid hE
  have HO1 := Lib.hid ho
  have X1 := Lib.hid (S3.EBox.new w1 e (.slice A k c))
  have hz1 := hb.size
  rw [S3.sz1] at hz1
  clear hb hE ho
  go_wp2_with fail
  have HT1e := Lib.hid (tokU HT1.out (S3.bal w1 (S3.eO e (.slice A k c))))
  refine (rsg_is HT1e.out qn (by simp) (by omega)).mono ?_
  rintro E w2 ⟨rfl, hb⟩
  have HB2 := Lib.hid (after (after HB1.out (S3.bal w1 (S3.eO e (.slice A k c)))) hb)
  have HT2 := Lib.hid (tokU HT1e.out hb)
  have X2 := X1.out.keep hb (by simp)
  obtain ⟨x0, x1, x2, x3, x4⟩ := X2
  have HE2 := Lib.hid (er_bel (er_bel HE1.out (S3.bal w1 (S3.eO e (.slice A k c)))) hb)
  have hz2 : w1.heap.size < w2.heap.size := by have := hb.size; rw [S3.sz1] at this; omega
  clear hb
  obtain ⟨_, htl, tb, og, ta, e9, htb, t0, t1, t2⟩ := HT2.out.at3 i (by omega)
  cases e9
  clear t0 t2
  have HO6 := Lib.hid (okE_op (k := 6) (s := (tkAt l i).2) (args := [e]) (by decide) (okI_small (Int.le_refl 0) (by decide)) htl)
  generalize (tkAt l i).2 = s at *
  have htw : tb < w.heap.size := by
    obtain ⟨_, _, tb', og', ta', e8, htb', _⟩ := HTW.out.at3 i (by omega)
    cases e8
    exact htb'
  have hbd := bal_dr2 w2
  have hS0 := Lib.hid (IxS.mk (W := w2) (tb := tb) (o := og + i * 3 + 1) (q := w1.heap.size) (s := s) (e := e) (va := .slice A k c) t1 ⟨x0, x1, x2, x3, x4⟩ |>.bel hbd htb hz2)
  have HEd := Lib.hid (er_bel HE2.out hbd)
  have HBd := Lib.hid (after HB2.out hbd)
  have hqt := fun W1 (h : Hid (IxS W1 tb (og + i * 3 + 1) w1.heap.size s e (.slice A k c))) => h.out.t
  have hq0 := fun W1 (h : Hid (IxS W1 tb (og + i * 3 + 1) w1.heap.size s e (.slice A k c))) => h.out.x.c0
  have hq1 := fun W1 (h : Hid (IxS W1 tb (og + i * 3 + 1) w1.heap.size s e (.slice A k c))) => h.out.x.c1
  have hq2 := fun W1 (h : Hid (IxS W1 tb (og + i * 3 + 1) w1.heap.size s e (.slice A k c))) => h.out.x.c2
  have hq3 := fun W1 (h : Hid (IxS W1 tb (og + i * 3 + 1) w1.heap.size s e (.slice A k c))) => h.out.x.c3
  have hq4 := fun W1 (h : Hid (IxS W1 tb (og + i * 3 + 1) w1.heap.size s e (.slice A k c))) => h.out.x.c4
  have qn1 : IntKind.i64.wrap ((n : Int) + 1) = (n : Int) + 1 := IntWalk.i64_in _ (by omega)
  have hil2 : (i : Int) < (l.length : Int) := by omega
  clear hbd t1 x0 x1 x2 x3 x4 HB2 HE2 HT2
  go_wp2_with fail
  refine wp_region_noPanic ?_
  refine wp_region_held_drew (S := fun W1 => Hid (IxS W1 tb (og + i * 3 + 1) w1.heap.size s e (.slice A k c))) (by kernel_rfl) hS0 (fun hHeld => ?_)
  clear hS0
  have HSD := Lib.hid (show w2.drew.heap.size = w2.heap.size from rfl)
  generalize w2.drew = wd at *
  refine wpAnyH_take (i := 0) (oi := { dst := some 38, op := Go.Op.move (Go.Operand.tmp 0), type := 34, pos := "ref.go:67", after := #[], guard := none }) (v := ?_) rfl (by as_aux_lemma => kernel_rfl) (by as_aux_lemma => kernel_rfl) (by as_aux_lemma => kernel_rfl) (fun _ _ _ h => h) (Or.inl ⟨by rfl, ?_⟩) hHeld ?_
  rotate_left
  · (intro w hSw; (try dsimp only at hSw); go_simp; try with_reducible rfl)
  try simp only [Act.put, List.setIfInBounds_toArray, List.set_cons_zero, List.set_cons_succ]
  refine wpAnyH_take (i := 1) (oi := { dst := some 39, op := Go.Op.move (Go.Operand.tmp 1), type := 3, pos := "ref.go:67", after := #[], guard := none }) (v := ?_) rfl (by as_aux_lemma => kernel_rfl) (by as_aux_lemma => kernel_rfl) (by as_aux_lemma => kernel_rfl) (fun _ _ _ h => h) (Or.inl ⟨by rfl, ?_⟩) hHeld ?_
  rotate_left
  · (intro w hSw; (try dsimp only at hSw); go_simp; try with_reducible rfl)
  try simp only [Act.put, List.setIfInBounds_toArray, List.set_cons_zero, List.set_cons_succ]
  refine wpAnyH_take (i := 2) (oi := { dst := some 40, op := Go.Op.indexAddr 34 (Go.Operand.tmp 38) (Go.Operand.tmp 39), type := 0, pos := "ref.go:67", after := #[{ on := 0, ground := Go.Ground.data }, { on := 1, ground := Go.Ground.data }], guard := none }) (v := ?_) rfl (by as_aux_lemma => kernel_rfl) (by as_aux_lemma => kernel_rfl) (by as_aux_lemma => kernel_rfl) (fun _ _ _ h => h) (Or.inl ⟨by rfl, ?_⟩) hHeld ?_
  rotate_left
  · (intro w hSw; (try dsimp only at hSw); go_simp; try with_reducible rfl)
  try simp only [Act.put, List.setIfInBounds_toArray, List.set_cons_zero, List.set_cons_succ]
  refine wpAnyH_take (i := 3) (oi := { dst := some 41, op := Go.Op.fieldAddr 89 (Go.Operand.tmp 40) 1, type := 0, pos := "ref.go:67", after := #[{ on := 2, ground := Go.Ground.data }], guard := none }) (v := ?_) rfl (by as_aux_lemma => kernel_rfl) (by as_aux_lemma => kernel_rfl) (by as_aux_lemma => kernel_rfl) (fun _ _ _ h => h) (Or.inl ⟨by rfl, ?_⟩) hHeld ?_
  rotate_left
  · (intro w hSw; (try dsimp only at hSw); go_simp; try with_reducible rfl)
  try simp only [Act.put, List.setIfInBounds_toArray, List.set_cons_zero, List.set_cons_succ]
  refine wpAnyH_take (i := 4) (oi := { dst := some 42, op := Go.Op.load 9 (Go.Operand.tmp 41), type := 9, pos := "ref.go:67", after := #[{ on := 3, ground := Go.Ground.data }], guard := none }) (v := ?_) rfl (by as_aux_lemma => kernel_rfl) (by as_aux_lemma => kernel_rfl) (by as_aux_lemma => kernel_rfl) (fun _ _ _ h => h) (Or.inl ⟨by rfl, ?_⟩) hHeld ?_
  rotate_left
  · (intro w hSw; (try dsimp only at hSw); go_simp; try with_reducible rfl)
  try simp only [Act.put, List.setIfInBounds_toArray, List.set_cons_zero, List.set_cons_succ]
  refine wpAnyH_take (i := 5) (oi := { dst := some 43, op := Go.Op.load 29 (Go.Operand.tmp 9), type := 29, pos := "ref.go:67", after := #[], guard := none }) (v := ?_) rfl (by as_aux_lemma => kernel_rfl) (by as_aux_lemma => kernel_rfl) (by as_aux_lemma => kernel_rfl) (fun _ _ _ h => h) (Or.inl ⟨by rfl, ?_⟩) hHeld ?_
  rotate_left
  · (intro w hSw; (try dsimp only at hSw); go_simp; try with_reducible rfl)
  try simp only [Act.put, List.setIfInBounds_toArray, List.set_cons_zero, List.set_cons_succ]
  refine wpAnyH_take (i := 8) (oi := { dst := some 46, op := Go.Op.move (Go.Operand.tmp 10), type := 3, pos := "ref.go:67", after := #[], guard := none }) (v := ?_) rfl (by as_aux_lemma => kernel_rfl) (by as_aux_lemma => kernel_rfl) (by as_aux_lemma => kernel_rfl) (fun _ _ _ h => h) (Or.inl ⟨by rfl, ?_⟩) hHeld ?_
  rotate_left
  · (intro w hSw; (try dsimp only at hSw); go_simp; try with_reducible rfl)
  try simp only [Act.put, List.setIfInBounds_toArray, List.set_cons_zero, List.set_cons_succ]
  refine wpAnyH_take (i := 9) (oi := { dst := some 47, op := Go.Op.binOp Go.BinOp.add 3 (Go.Operand.tmp 46) (Go.Operand.const (Go.Value.int Go.IntKind.i64 1)) 3, type := 3, pos := "ref.go:67", after := #[{ on := 8, ground := Go.Ground.data }], guard := none }) (v := ?_) rfl (by as_aux_lemma => kernel_rfl) (by as_aux_lemma => kernel_rfl) (by as_aux_lemma => kernel_rfl) (fun _ _ _ h => h) (Or.inl ⟨by rfl, ?_⟩) hHeld ?_
  rotate_left
  · (intro w hSw; (try dsimp only at hSw); go_simp; try with_reducible rfl)
  try simp only [Act.put, List.setIfInBounds_toArray, List.set_cons_zero, List.set_cons_succ]
  have hSa := Lib.hid (hHeld.out.bel (S3.bal wd (S3.eO e (.slice A k c))) (by rw [HSD.out]; omega) (by rw [HSD.out]; omega))
  have HE3 := Lib.hid (er_one HO1.out (n := w.heap.size + 1) (by have := HBd.out.size; rw [S3.sz1] at this; omega) HEd.out)
  have HB3 := Lib.hid (after HBd.out (S3.bal wd (S3.eO e (.slice A k c))))
  refine wpAnyH_ready (rs := [6]) (by as_aux_lemma => kernel_rfl) (List.cons_ne_nil _ _) ?_
  refine AllReadyH.cons (o := { dst := some 44, op := Go.Op.buildSlice 27 1 #[(0, Go.Operand.tmp 43)], type := 27, pos := "ref.go:67", after := #[{ on := 5, ground := Go.Ground.data }], guard := none }) rfl (fun K hK => ?_) AllReadyH.nil
  go_simp
  refine hK.out _ _ hSa (fun hHeld2 => ?_)
  clear hK K hHeld
  have hHeld := hHeld2
  clear hHeld2
  try simp only [Act.put, List.setIfInBounds_toArray, List.set_cons_zero, List.set_cons_succ]
  generalize hwe : wd.alloc (.cells #[.int .i64 e.kind, .int .i64 e.op, .int .i64 e.num, .string (S3.B e.name), .slice A k c] 29) = we at *
  have HWE := Lib.hid hwe
  clear hwe
  refine wpAnyH_ready (rs := [7]) (by as_aux_lemma => kernel_rfl) (List.cons_ne_nil _ _) ?_
  refine AllReadyH.cons (o := { dst := some 45, op := Go.Op.build 29 #[(0, Go.Operand.const (Go.Value.int Go.IntKind.i64 6)), (3, Go.Operand.tmp 42), (4, Go.Operand.tmp 44)], type := 29, pos := "ref.go:67", after := #[{ on := 4, ground := Go.Ground.data }, { on := 6, ground := Go.Ground.data }], guard := none }) rfl (fun K hK => ?_) AllReadyH.nil
  go_simp
  refine hK.out _ _ hHeld (fun _ => ?_)
  clear hK K
  try simp only [Act.put, List.setIfInBounds_toArray, List.set_cons_zero, List.set_cons_succ]
  refine wpAnyH_ready (rs := [10]) (by as_aux_lemma => kernel_rfl) (List.cons_ne_nil _ _) ?_
  refine AllReadyH.cons (o := { dst := some 48, op := Go.Op.call { callee := Go.Callee.value (Go.Operand.func 83), args := #[Go.Operand.tmp 45, Go.Operand.tmp 47], argTypes := #[29, 3] }, type := 31, pos := "ref.go:67", after := #[{ on := 7, ground := Go.Ground.data }, { on := 9, ground := Go.Ground.data }], guard := none }) rfl (fun K hK => ?_) AllReadyH.nil
  go_simp
  refine (rmade_no ⟨6, 0, 0, s, [e]⟩ HO6.out hx _ 1 1 ((n : Int) + 1) (by omega) (by omega) we (er_in HE3.out (Nat.le_refl _))).mono ?_
  rintro E w4 ⟨rfl, hb⟩
  have HB4 := Lib.hid (after HB3.out hb)
  have HE4 := Lib.hid (er_bel HE3.out hb)
  have hS4 := Lib.hid (hHeld.out.bel hb (by rw [← HWE.out, S3.sz1, HSD.out]; omega) (by rw [← HWE.out, S3.sz1, HSD.out]; omega))
  clear hb
  go_wp2_with fail
  refine hK.out _ _ hS4 (fun hHeld2 => ?_)
  clear hK K hHeld
  have hHeld := hHeld2
  clear hHeld2
  try simp only [Act.put, List.setIfInBounds_toArray, List.set_cons_zero, List.set_cons_succ]
  refine wpAnyH_take (i := 11) (oi := { dst := some 49, op := Go.Op.extract (Go.Operand.tmp 48) 0, type := 29, pos := "ref.go:67", after := #[{ on := 10, ground := Go.Ground.data }], guard := none }) (v := ?_) rfl (by as_aux_lemma => kernel_rfl) (by as_aux_lemma => kernel_rfl) (by as_aux_lemma => kernel_rfl) (fun _ _ _ h => h) (Or.inl ⟨by rfl, ?_⟩) hHeld ?_
  rotate_left
  · (intro w hSw; (try dsimp only at hSw); go_simp; try with_reducible rfl)
  try simp only [Act.put, List.setIfInBounds_toArray, List.set_cons_zero, List.set_cons_succ]
  refine wpAnyH_take (i := 12) (oi := { dst := some 50, op := Go.Op.extract (Go.Operand.tmp 48) 1, type := 3, pos := "ref.go:67", after := #[{ on := 10, ground := Go.Ground.data }], guard := none }) (v := ?_) rfl (by as_aux_lemma => kernel_rfl) (by as_aux_lemma => kernel_rfl) (by as_aux_lemma => kernel_rfl) (fun _ _ _ h => h) (Or.inl ⟨by rfl, ?_⟩) hHeld ?_
  rotate_left
  · (intro w hSw; (try dsimp only at hSw); go_simp; try with_reducible rfl)
  try simp only [Act.put, List.setIfInBounds_toArray, List.set_cons_zero, List.set_cons_succ]
  refine wpAnyH_take (i := 13) (oi := { dst := some 51, op := Go.Op.extract (Go.Operand.tmp 48) 2, type := 30, pos := "ref.go:67", after := #[{ on := 10, ground := Go.Ground.data }], guard := none }) (v := ?_) rfl (by as_aux_lemma => kernel_rfl) (by as_aux_lemma => kernel_rfl) (by as_aux_lemma => kernel_rfl) (fun _ _ _ h => h) (Or.inl ⟨by rfl, ?_⟩) hHeld ?_
  rotate_left
  · (intro w hSw; (try dsimp only at hSw); go_simp; try with_reducible rfl)
  try simp only [Act.put, List.setIfInBounds_toArray, List.set_cons_zero, List.set_cons_succ]
  refine wpAnyH_ready (rs := [14]) (by as_aux_lemma => kernel_rfl) (List.cons_ne_nil _ _) ?_
  refine AllReadyH.cons (o := { dst := none, op := Go.Op.store 29 (Go.Operand.tmp 6) (Go.Operand.tmp 49), type := 0, pos := "ref.go:67", after := #[{ on := 11, ground := Go.Ground.data }, { on := 10, ground := Go.Ground.chain }, { on := 0, ground := Go.Ground.phase }, { on := 1, ground := Go.Ground.phase }, { on := 2, ground := Go.Ground.phase }, { on := 3, ground := Go.Ground.phase }, { on := 4, ground := Go.Ground.phase }, { on := 5, ground := Go.Ground.phase }, { on := 6, ground := Go.Ground.phase }, { on := 7, ground := Go.Ground.phase }, { on := 8, ground := Go.Ground.phase }, { on := 9, ground := Go.Ground.phase }, { on := 10, ground := Go.Ground.phase }, { on := 11, ground := Go.Ground.phase }, { on := 12, ground := Go.Ground.phase }, { on := 13, ground := Go.Ground.phase }], guard := none }) rfl (fun K hK => ?_) AllReadyH.nil
  obtain ⟨z0, z1, z2, z3, z4, r0, r1, r2, r3, r4, y0, y1, y2, y3, y4⟩ := ((Q.out _ _ _ _ _).bel HB4.out).facts
  have hq1 := ((Q.out _ _ _ _ _).bel HB4.out).lt
  have hSp := Lib.hid (hHeld.out.put (z := w.heap.size) (.int .i64 0) (.int .i64 0) (.int .i64 0) (.string ⟨#[]⟩) (.slice none 0 0) (by omega) (by omega))
  have HF := Lib.hid (parse_fin zE none 0 0 HB4.out (zE_in _ _)).2
  go_wp2_with fail
  refine hK.out _ _ hSp (fun _ => ?_)
  clear hK K
  try simp only [Act.put, List.setIfInBounds_toArray, List.set_cons_zero, List.set_cons_succ]
  clear hHeld
  have hHeld := hSp
  refine wpAnyH_ready (rs := [15]) (by as_aux_lemma => kernel_rfl) (List.cons_ne_nil _ _) ?_
  refine AllReadyH.cons (o := { dst := some 7, op := Go.Op.assign (Go.Operand.tmp 50), type := 3, pos := "ref.go:67", after := #[{ on := 12, ground := Go.Ground.data }, { on := 14, ground := Go.Ground.chain }, { on := 0, ground := Go.Ground.phase }, { on := 1, ground := Go.Ground.phase }, { on := 2, ground := Go.Ground.phase }, { on := 3, ground := Go.Ground.phase }, { on := 4, ground := Go.Ground.phase }, { on := 5, ground := Go.Ground.phase }, { on := 6, ground := Go.Ground.phase }, { on := 7, ground := Go.Ground.phase }, { on := 8, ground := Go.Ground.phase }, { on := 9, ground := Go.Ground.phase }, { on := 10, ground := Go.Ground.phase }, { on := 11, ground := Go.Ground.phase }, { on := 12, ground := Go.Ground.phase }, { on := 13, ground := Go.Ground.phase }, { on := 14, ground := Go.Ground.phase }], guard := none }) rfl (fun K hK => ?_) AllReadyH.nil
  go_simp
  refine hK.out _ _ hHeld (fun _ => ?_)
  clear hK K
  try simp only [Act.put, List.setIfInBounds_toArray, List.set_cons_zero, List.set_cons_succ]
  refine wpAnyH_ready (rs := [16]) (by as_aux_lemma => kernel_rfl) (List.cons_ne_nil _ _) ?_
  refine AllReadyH.cons (o := { dst := some 8, op := Go.Op.assign (Go.Operand.tmp 51), type := 30, pos := "ref.go:67", after := #[{ on := 13, ground := Go.Ground.data }, { on := 15, ground := Go.Ground.chain }, { on := 0, ground := Go.Ground.phase }, { on := 1, ground := Go.Ground.phase }, { on := 2, ground := Go.Ground.phase }, { on := 3, ground := Go.Ground.phase }, { on := 4, ground := Go.Ground.phase }, { on := 5, ground := Go.Ground.phase }, { on := 6, ground := Go.Ground.phase }, { on := 7, ground := Go.Ground.phase }, { on := 8, ground := Go.Ground.phase }, { on := 9, ground := Go.Ground.phase }, { on := 10, ground := Go.Ground.phase }, { on := 11, ground := Go.Ground.phase }, { on := 12, ground := Go.Ground.phase }, { on := 13, ground := Go.Ground.phase }, { on := 14, ground := Go.Ground.phase }, { on := 15, ground := Go.Ground.phase }], guard := none }) rfl (fun K hK => ?_) AllReadyH.nil
  go_simp
  refine hK.out _ _ hHeld (fun _ => ?_)
  clear hK K
  try simp only [Act.put, List.setIfInBounds_toArray, List.set_cons_zero, List.set_cons_succ]
  refine wpAnyH_done (by kernel_rfl) ?_ _
  refine NoPanic.normal ?_
  go_wp2_with fail
  exact bodyPost_ret (v := .tuple #[S3.eV zE (.slice none 0 0), .int .i64 ((n : Int) + 1 - 1), .int .i64 8]) (by simp [results, Tryz.results133, go_sem, zE, r0, r1, r2, r3, r4]) rfl ⟨by rw [show (n : Int) + 1 - 1 = (n : Int) by omega], HF.out⟩
end Go.Proofs.YtlhifbckmknijaaGreatDoor.E5
