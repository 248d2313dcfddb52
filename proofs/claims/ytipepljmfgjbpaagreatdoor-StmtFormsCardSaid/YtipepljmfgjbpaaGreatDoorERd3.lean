/-
  The reader's parts that go on with others: inner, unary, variable, signed, operand, climb: contracts out of those of the others.
  signed, variable: contracts out of those of the others. Written by gen5_rd4.py.
  climb: its contract out of those of operand and of itself further on; all parts by induction.
  All parts of the reader, by induction on what is left of the tokens.
-/
import Derived.Test.YtipepljmfgjbpaaGreatDoorERd
namespace Go.Proofs.YtipepljmfgjbpaaGreatDoor.E5
open Go Go.RowKit Go.Proofs.YtipepljmfgjbpaaGreatDoor

theorem er_one {w : World} {n : Nat} {e : Ex} {A : Option Addr} {k c : Nat} (ho : S3.OkE e) (hn : n ≤ w.heap.size) (h : S3.ER w (Rn n w.heap.size) e.args (.slice A k c)) :
    S3.ER (w.alloc (S3.eO e (.slice A k c))) (Rn n (w.alloc (S3.eO e (.slice A k c))).heap.size) [e] (.slice (some ⟨w.heap.size, 0, none⟩) 1 1) := by
  have hb := S3.EBox.new w e (.slice A k c)
  refine .mk [e] (some ⟨w.heap.size, 0, none⟩) 1 (fun _ => .slice A k c) (by simp) (fun i x hx => ?_) (fun i x hx => ?_)
  · match i, hx with
    | 0, hx => cases hx; exact ⟨_, 0, rfl, ⟨hn, by simp⟩, ho, ⟨hb.c0, hb.c1, hb.c2, hb.c3, hb.c4⟩⟩
    | i + 1, hx => simp at hx
  · match i, hx with
    | 0, hx => cases hx; exact er_bel h (S3.bal w _)
    | i + 1, hx => simp at hx
abbrev eO2 (a : Ex) (va : Value) (b : Ex) (vb : Value) : Obj := .cells #[.int .i64 a.kind, .int .i64 a.op, .int .i64 a.num, .string (B a.name), va, .int .i64 b.kind, .int .i64 b.op, .int .i64 b.num, .string (B b.name), vb] 67
theorem er_two {w : World} {n : Nat} {a b : Ex} {va vb : Value} (ha : S3.OkE a) (hb : S3.OkE b) (hn : n ≤ w.heap.size) (h1 : S3.ER w (Rn n w.heap.size) a.args va) (h2 : S3.ER w (Rn n w.heap.size) b.args vb) :
    S3.ER (w.alloc (eO2 a va b vb)) (Rn n (w.alloc (eO2 a va b vb)).heap.size) [a, b] (.slice (some ⟨w.heap.size, 0, none⟩) 2 2) := by
  have k := fun (i : Nat) (u : Value) (h : (#[.int .i64 a.kind, .int .i64 a.op, .int .i64 a.num, .string (B a.name), va, .int .i64 b.kind, .int .i64 b.op, .int .i64 b.num, .string (B b.name), vb] : Array Value)[i]? = some u) => S3.newCell w _ 67 i u h
  refine .mk [a, b] (some ⟨w.heap.size, 0, none⟩) 2 (fun i => if i = 0 then va else vb) (by simp) (fun i e he => ?_) (fun i e he => ?_)
  · match i, he with
    | 0, he => cases he; exact ⟨_, 0, rfl, ⟨hn, by simp⟩, ha, ⟨k 0 _ rfl, k 1 _ rfl, k 2 _ rfl, k 3 _ rfl, k 4 _ rfl⟩⟩
    | 1, he => cases he; exact ⟨_, 0, rfl, ⟨hn, by simp⟩, hb, ⟨k 5 _ rfl, k 6 _ rfl, k 7 _ rfl, k 8 _ rfl, k 9 _ rfl⟩⟩
    | i + 2, he => simp at he
  · match i, he with
    | 0, he => cases he; exact er_bel h1 (S3.bal w _)
    | 1, he => cases he; exact er_bel h2 (S3.bal w _)
    | i + 2, he => simp at he
theorem Rd.dec2 {w : World} {l : TL} {v : Value} {b : RB} {i d : Nat} (h : Rd w l v b i (d + 1)) : Rd (w.setCell ⟨b.r, 1, none⟩ (.int .i64 (d : Int))) l v b i d := h.set2 d (by have := h.hd; omega)

set_option maxRecDepth 100000 in
set_option maxHeartbeats 1000000 in
theorem rexpr_of {w : World} {l : TL} {v : Value} {b : RB} {i d : Nat} (h : Rd w l v b i d) (r : Res)
    (C : ∀ W, Rd W l v b i d → Calls Tryz.prog 80 #[rp b, .int .i64 1] W (Post W l v b d r)) :
    Calls Tryz.prog 74 #[rp b] w (Post w l v b d r) := by
  have H := Lib.hid (fun o => h.al o)
  have pH := h.ptr
  have Q := Lib.hid (fun a0 a1 a2 a3 a4 => R5.new w a0 a1 a2 a3 a4)
  have hbw := h.lt
  have C := Lib.hid C
  clear h
  go_enter Tryz.func74, Tryz.ntmps74
  go_wp2_with fail
  refine (C.out _ (H.out _)).mono ?_
  intro E w4 hP
  cases r with
  | bad j c =>
    obtain ⟨rfl, hf⟩ := hP
    have HF := Lib.hid hf
    clear hf
    go_wp2_with fail
    exact ⟨rfl, rfl, (Fr.of (S3.bal w _)).trans HF.out⟩
  | ok e n =>
    obtain ⟨A, k, c, rfl, ho, hE, hr, hf⟩ := hP
    obtain ⟨z0, z1, z2, z3, z4, r0, r1, r2, r3, r4, y0, y1, y2, y3, y4⟩ := ((Q.out _ _ _ _ _).fr (by omega) hf).facts
    have HR := Lib.hid hr
    have pHR := HR.out.ptr
    have HF := Lib.hid hf
    have HE := Lib.hid hE
    have HO := Lib.hid ho
    clear hr hf hE ho
    go_wp2_with fail
    exact bodyPost_ret (v := S3.eV e (.slice A k c)) (by simp [results, Tryz.results74, go_sem, r0, r1, r2, r3, r4]) rfl (post_end (Nat.le_refl _) (by simp) hbw (Fr.of (S3.bal w _)) HO.out HE.out HR.out HF.out _ _ _ _ _)

set_option maxRecDepth 100000 in
set_option maxHeartbeats 1000000 in
theorem rinner_deep {w : World} {l : TL} {v : Value} {b : RB} {i d : Nat} (h : Rd w l v b i d) (hd : 40 ≤ d) (s : Bytes) :
    Calls Tryz.prog 93 #[rp b, .string (B s)] w (Post w l v b d (.bad i 8)) := by
  have H := Lib.hid (fun o => h.al o)
  have pH := h.ptr
  clear h
  go_enter Tryz.func93, Tryz.ntmps93
  go_wp2_with fail
  refine (open_no (H.out _) hd).mono ?_
  rintro E w4 ⟨rfl, hb⟩
  have HB := Lib.hid (after (S3.bal w _) hb)
  clear hb
  go_wp2_with fail
  exact ⟨rfl, rfl, Fr.of HB.out⟩
set_option maxRecDepth 100000 in
set_option maxHeartbeats 1000000 in
theorem rinner_bad {w : World} {l : TL} {v : Value} {b : RB} {i d : Nat} (h : Rd w l v b i d) (hd : d < 40) (hi : i < l.length) (s : Bytes) (j : Nat) (c : Int)
    (C : ∀ W, Rd W l v b (i + 1) (d + 1) → Calls Tryz.prog 74 #[rp b] W (Post W l v b (d + 1) (.bad j c))) :
    Calls Tryz.prog 93 #[rp b, .string (B s)] w (Post w l v b d (.bad j c)) := by
  have H := Lib.hid (fun o => h.al o)
  have pH := h.ptr
  have Q := Lib.hid (fun a0 a1 a2 a3 a4 => R5.new w a0 a1 a2 a3 a4)
  have hbw := h.lt
  have C := Lib.hid C
  clear h
  go_enter Tryz.func93, Tryz.ntmps93
  go_wp2_with fail
  refine (open_yes (H.out _) hd hi).mono ?_
  rintro E w1 ⟨rfl, hr1, hf1⟩
  have H1 := Lib.hid hr1
  have pH1 := H1.out.ptr
  have F1 := Lib.hid ((Fr.of (S3.bal w _)).trans hf1)
  have Q1 := Lib.hid ((Q.out _ _ _ _ _).fr (by omega) hf1)
  have hq1 := Q1.out.lt
  clear hr1 hf1
  go_wp2_with fail
  refine (C.out _ H1.out).mono ?_
  rintro E w2 ⟨rfl, hf⟩
  have HF := Lib.hid hf
  clear hf
  go_wp2_with fail
  exact ⟨rfl, rfl, F1.out.trans HF.out⟩
set_option maxRecDepth 100000 in
set_option maxHeartbeats 1000000 in
theorem rinner_no {w : World} {l : TL} {v : Value} {b : RB} {i d : Nat} (h : Rd w l v b i d) (hd : d < 40) (hi : i < l.length) (s : Bytes) (e : Ex) (n : Nat) (hsg : sgAt l n ≠ s)
    (C : ∀ W, Rd W l v b (i + 1) (d + 1) → Calls Tryz.prog 74 #[rp b] W (Post W l v b (d + 1) (.ok e n))) :
    Calls Tryz.prog 93 #[rp b, .string (B s)] w (Post w l v b d (.bad n 7)) := by
  have H := Lib.hid (fun o => h.al o)
  have pH := h.ptr
  have Q := Lib.hid (fun a0 a1 a2 a3 a4 => R5.new w a0 a1 a2 a3 a4)
  have hbw := h.lt
  have C := Lib.hid C
  clear h
  have HS := Lib.hid hsg
  clear hsg
  go_enter Tryz.func93, Tryz.ntmps93
  go_wp2_with fail
  refine (open_yes (H.out _) hd hi).mono ?_
  rintro E w1 ⟨rfl, hr1, hf1⟩
  have H1 := Lib.hid hr1
  have pH1 := H1.out.ptr
  have F1 := Lib.hid ((Fr.of (S3.bal w _)).trans hf1)
  have Q1 := Lib.hid ((Q.out _ _ _ _ _).fr (by omega) hf1)
  have hq1 := Q1.out.lt
  clear hr1 hf1
  go_wp2_with fail
  refine (C.out _ H1.out).mono ?_
  rintro E w2 ⟨A, k, c, rfl, ho, hE, hr, hf⟩
  have Q2 := Lib.hid (Q1.out.fr (by omega) hf)
  have HR := Lib.hid (hr.al (S3.eO e (.slice A k c)))
  have pHR := HR.out.ptr
  have HF := Lib.hid hf
  have HE := Lib.hid hE
  have HO := Lib.hid ho
  have E2 := Lib.hid (S3.EBox.new w2 e (.slice A k c))
  have hb2 := hr.lt
  have hz2 := hf.size
  clear hr hf hE ho C H1
  go_wp2_with fail
  refine (pass_no HR.out HS.out).mono ?_
  rintro E w3 ⟨rfl, hf⟩
  have F3 := Lib.hid ((Fr.of (S3.bal w2 (S3.eO e (.slice A k c)))).trans hf)
  clear hf
  go_wp2_with fail
  exact ⟨rfl, rfl, (F1.out.trans HF.out).trans F3.out⟩
set_option maxRecDepth 100000 in
set_option maxHeartbeats 1000000 in
theorem rinner_yes {w : World} {l : TL} {v : Value} {b : RB} {i d : Nat} (h : Rd w l v b i d) (hd : d < 40) (hi : i < l.length) (s : Bytes) (hs : s ≠ []) (e : Ex) (n : Nat) (hsg : sgAt l n = s)
    (C : ∀ W, Rd W l v b (i + 1) (d + 1) → Calls Tryz.prog 74 #[rp b] W (Post W l v b (d + 1) (.ok e n))) :
    Calls Tryz.prog 93 #[rp b, .string (B s)] w (Post w l v b d (.ok e (n + 1))) := by
  have H := Lib.hid (fun o => h.al o)
  have pH := h.ptr
  have Q := Lib.hid (fun a0 a1 a2 a3 a4 => R5.new w a0 a1 a2 a3 a4)
  have hbw := h.lt
  have C := Lib.hid C
  clear h
  have HS := Lib.hid hsg
  clear hsg
  go_enter Tryz.func93, Tryz.ntmps93
  go_wp2_with fail
  refine (open_yes (H.out _) hd hi).mono ?_
  rintro E w1 ⟨rfl, hr1, hf1⟩
  have H1 := Lib.hid hr1
  have pH1 := H1.out.ptr
  have F1 := Lib.hid ((Fr.of (S3.bal w _)).trans hf1)
  have Q1 := Lib.hid ((Q.out _ _ _ _ _).fr (by omega) hf1)
  have hq1 := Q1.out.lt
  clear hr1 hf1
  go_wp2_with fail
  refine (C.out _ H1.out).mono ?_
  rintro E w2 ⟨A, k, c, rfl, ho, hE, hr, hf⟩
  have Q2 := Lib.hid (Q1.out.fr (by omega) hf)
  have HR := Lib.hid (hr.al (S3.eO e (.slice A k c)))
  have pHR := HR.out.ptr
  have HF := Lib.hid hf
  have HE := Lib.hid hE
  have HO := Lib.hid ho
  have E2 := Lib.hid (S3.EBox.new w2 e (.slice A k c))
  have hb2 := hr.lt
  have hz2 := hf.size
  clear hr hf hE ho C H1
  go_wp2_with fail
  refine (pass_yes HR.out HS.out hs).mono ?_
  rintro E w3 ⟨rfl, hr, hf⟩
  have H3 := Lib.hid hr
  have pH3 := H3.out.ptr
  have F3 := Lib.hid ((Fr.of (S3.bal w2 (S3.eO e (.slice A k c)))).trans hf)
  have Q3 := Lib.hid (Q2.out.fr (by omega) F3.out)
  obtain ⟨e0, e1, e2, e3, e4⟩ := E2.out
  have e0 := (hf.cell (k := w2.heap.size) (i := 0) (by simp) (by omega)).trans e0
  have e1 := (hf.cell (k := w2.heap.size) (i := 1) (by simp) (by omega)).trans e1
  have e2 := (hf.cell (k := w2.heap.size) (i := 2) (by simp) (by omega)).trans e2
  have e3 := (hf.cell (k := w2.heap.size) (i := 3) (by simp) (by omega)).trans e3
  have e4 := (hf.cell (k := w2.heap.size) (i := 4) (by simp) (by omega)).trans e4
  obtain ⟨z0, z1, z2, z3, z4, r0, r1, r2, r3, r4, y0, y1, y2, y3, y4⟩ := Q3.out.facts
  obtain ⟨p0, c0, c1, c2, f1, f2⟩ := H3.out.cells
  have hd3 := H3.out.hd
  clear hr hf HR Q2 E2
  go_wp2_with fail
  have FX := Lib.hid (F3.out.setN (.int .i64 (d : Int)))
  exact bodyPost_ret (v := S3.eV e (.slice A k c)) (by simp [results, Tryz.results93, go_sem, r0, r1, r2, r3, r4]) rfl (post_end (wc := w1) (Nat.le_refl _) hq1 hbw F1.out HO.out (er_fr HE.out (by omega) FX.out) H3.out.dec2 (HF.out.trans FX.out) _ _ _ _ _)
theorem okE_op {k op : Int} {s : Bytes} {args : List Ex} (hk : 0 ≤ k ∧ k ≤ 7) (hop : S3.okI op) (hs : s.length ≤ 9223372036854775807) : S3.OkE ⟨k, op, 0, s, args⟩ := ⟨okI_small hk.1 (Int.le_trans hk.2 (by decide)), hop, okI_small (Int.le_refl 0) (show (0 : Int) ≤ 100 by decide), hs⟩
theorem runary_deep {w : World} {l : TL} {v : Value} {b : RB} {i d : Nat} (h : Rd w l v b i d) (hd : 40 ≤ d) (op : Int) :
    Calls Tryz.prog 95 #[rp b, .int .i64 op] w (Post w l v b d (.bad i 8)) := by
  have H := Lib.hid (fun o => h.al o)
  have pH := h.ptr
  clear h
  go_enter Tryz.func95, Tryz.ntmps95
  go_wp2_with fail
  refine (open_no (H.out _) hd).mono ?_
  rintro E w4 ⟨rfl, hb⟩
  have HB := Lib.hid (after (S3.bal w _) hb)
  clear hb
  go_wp2_with fail
  exact ⟨rfl, rfl, Fr.of HB.out⟩
set_option maxRecDepth 100000 in
set_option maxHeartbeats 1000000 in
theorem runary_bad {w : World} {l : TL} {v : Value} {b : RB} {i d : Nat} (h : Rd w l v b i d) (hd : d < 40) (hi : i < l.length) (op : Int) (j : Nat) (c : Int)
    (C : ∀ W, Rd W l v b (i + 1) (d + 1) → Calls Tryz.prog 83 #[rp b] W (Post W l v b (d + 1) (.bad j c))) :
    Calls Tryz.prog 95 #[rp b, .int .i64 op] w (Post w l v b d (.bad j c)) := by
  have H := Lib.hid (fun o => h.al o)
  have pH := h.ptr
  have Q := Lib.hid (fun a0 a1 a2 a3 a4 => R5.new w a0 a1 a2 a3 a4)
  have hbw := h.lt
  have C := Lib.hid C
  clear h
  go_enter Tryz.func95, Tryz.ntmps95
  go_wp2_with fail
  refine (open_yes (H.out _) hd hi).mono ?_
  rintro E w1 ⟨rfl, hr1, hf1⟩
  have H1 := Lib.hid hr1
  have pH1 := H1.out.ptr
  have F1 := Lib.hid ((Fr.of (S3.bal w _)).trans hf1)
  have Q1 := Lib.hid ((Q.out _ _ _ _ _).fr (by omega) hf1)
  have hq1 := Q1.out.lt
  clear hr1 hf1
  go_wp2_with fail
  refine (C.out _ H1.out).mono ?_
  rintro E w2 ⟨rfl, hf⟩
  have HF := Lib.hid hf
  clear hf
  go_wp2_with fail
  exact ⟨rfl, rfl, F1.out.trans HF.out⟩
set_option maxRecDepth 100000 in
set_option maxHeartbeats 1000000 in
theorem runary_yes {w : World} {l : TL} {v : Value} {b : RB} {i d : Nat} (h : Rd w l v b i d) (hd : d < 40) (hi : i < l.length) (op : Int) (hop : S3.okI op) (e : Ex) (n : Nat) (hx : S3.exB ⟨4, op, 0, [], [e]⟩ = true)
    (C : ∀ W, Rd W l v b (i + 1) (d + 1) → Calls Tryz.prog 83 #[rp b] W (Post W l v b (d + 1) (.ok e n))) :
    Calls Tryz.prog 95 #[rp b, .int .i64 op] w (Post w l v b d (.ok ⟨4, op, 0, [], [e]⟩ n)) := by
  have H := Lib.hid (fun o => h.al o)
  have pH := h.ptr
  have Q := Lib.hid (fun a0 a1 a2 a3 a4 => R5.new w a0 a1 a2 a3 a4)
  have hbw := h.lt
  have C := Lib.hid C
  clear h
  go_enter Tryz.func95, Tryz.ntmps95
  go_wp2_with fail
  refine (open_yes (H.out _) hd hi).mono ?_
  rintro E w1 ⟨rfl, hr1, hf1⟩
  have H1 := Lib.hid hr1
  have pH1 := H1.out.ptr
  have F1 := Lib.hid ((Fr.of (S3.bal w _)).trans hf1)
  have Q1 := Lib.hid ((Q.out _ _ _ _ _).fr (by omega) hf1)
  have hq1 := Q1.out.lt
  clear hr1 hf1
  go_wp2_with fail
  refine (C.out _ H1.out).mono ?_
  rintro E w2 ⟨A, k, c, rfl, ho, hE, hr, hf⟩
  have Q2 := Lib.hid (Q1.out.fr (by omega) hf)
  have HR := Lib.hid hr
  have pHR := HR.out.ptr
  have HF := Lib.hid hf
  have HE := Lib.hid hE
  have HO := Lib.hid ho
  have E2 := Lib.hid (S3.EBox.new w2 e (.slice A k c))
  have hb2 := hr.lt
  have hz2 := hf.size
  obtain ⟨p0, c0, c1, c2, f1, f2⟩ := hr.cells
  have hd2 := hr.hd
  clear hr hf hE ho C H1
  go_wp2_with fail
  have HX := Lib.hid ((HR.out.dec2.al (S3.eO e (.slice A k c))).al (S3.eO e (.slice A k c)))
  have pHX := HX.out.ptr
  have FX := Lib.hid ((((Fr.refl b w2).setN (.int .i64 (d : Int))).al (S3.eO e (.slice A k c))).al (S3.eO e (.slice A k c)))
  have FY := Lib.hid (((Fr.refl b w2).setN (.int .i64 (d : Int))).al (S3.eO e (.slice A k c)))
  have EX := er_one HO.out (n := w1.heap.size) (by have := FY.out.size; omega) (er_fr HE.out (by omega) FY.out)
  have hsz : (((w2.setCell ⟨b.r, 1, none⟩ (.int .i64 (d : Int))).alloc (S3.eO e (.slice A k c)))).heap.size = w2.heap.size + 1 := by simp [World.setCell]
  rw [hsz] at EX
  have EX := Lib.hid EX
  have QX := Lib.hid (Q2.out.fr (by omega) FX.out)
  have ho4 := Lib.hid (okE_op (k := 4) (s := []) (args := [e]) (by decide) hop (by simp))
  generalize ((w2.setCell ⟨b.r, 1, none⟩ (.int .i64 (d : Int))).alloc (S3.eO e (.slice A k c))).alloc (S3.eO e (.slice A k c)) = w3 at *
  clear Q2 HR HE E2 p0 c0 c1 c2 f1 f2 FY hsz
  refine (whole_yes HX.out ⟨4, op, 0, [], [e]⟩ ho4.out _ 1 1 (er_in EX.out (Nat.le_refl _)) hx).mono ?_
  rintro E w4 ⟨rfl, hb⟩
  have HB := Lib.hid hb
  obtain ⟨z0, z1, z2, z3, z4, r0, r1, r2, r3, r4, y0, y1, y2, y3, y4⟩ := (QX.out.bel hb).facts
  clear hb
  go_wp2_with fail
  exact bodyPost_ret (v := S3.eV ⟨4, op, 0, [], [e]⟩ (.slice (some ⟨w2.heap.size + 1, 0, none⟩) 1 1)) (by simp [results, Tryz.results95, go_sem, r0, r1, r2, r3, r4]) rfl (post_end (wc := w1) (Nat.le_refl _) hq1 hbw F1.out ho4.out (er_bel EX.out HB.out) (HX.out.bel HB.out) ((HF.out.trans FX.out).trans (Fr.of HB.out)) _ _ _ _ _)
set_option maxRecDepth 100000 in
set_option maxHeartbeats 1000000 in
theorem runary_no {w : World} {l : TL} {v : Value} {b : RB} {i d : Nat} (h : Rd w l v b i d) (hd : d < 40) (hi : i < l.length) (op : Int) (hop : S3.okI op) (e : Ex) (n : Nat) (hn : 1 ≤ n) (hx : S3.exB ⟨4, op, 0, [], [e]⟩ = false)
    (C : ∀ W, Rd W l v b (i + 1) (d + 1) → Calls Tryz.prog 83 #[rp b] W (Post W l v b (d + 1) (.ok e n))) :
    Calls Tryz.prog 95 #[rp b, .int .i64 op] w (Post w l v b d (.bad (n - 1) 8)) := by
  have H := Lib.hid (fun o => h.al o)
  have pH := h.ptr
  have Q := Lib.hid (fun a0 a1 a2 a3 a4 => R5.new w a0 a1 a2 a3 a4)
  have hbw := h.lt
  have C := Lib.hid C
  clear h
  go_enter Tryz.func95, Tryz.ntmps95
  go_wp2_with fail
  refine (open_yes (H.out _) hd hi).mono ?_
  rintro E w1 ⟨rfl, hr1, hf1⟩
  have H1 := Lib.hid hr1
  have pH1 := H1.out.ptr
  have F1 := Lib.hid ((Fr.of (S3.bal w _)).trans hf1)
  have Q1 := Lib.hid ((Q.out _ _ _ _ _).fr (by omega) hf1)
  have hq1 := Q1.out.lt
  clear hr1 hf1
  go_wp2_with fail
  refine (C.out _ H1.out).mono ?_
  rintro E w2 ⟨A, k, c, rfl, ho, hE, hr, hf⟩
  have Q2 := Lib.hid (Q1.out.fr (by omega) hf)
  have HR := Lib.hid hr
  have pHR := HR.out.ptr
  have HF := Lib.hid hf
  have HE := Lib.hid hE
  have HO := Lib.hid ho
  have E2 := Lib.hid (S3.EBox.new w2 e (.slice A k c))
  have hb2 := hr.lt
  have hz2 := hf.size
  obtain ⟨p0, c0, c1, c2, f1, f2⟩ := hr.cells
  have hd2 := hr.hd
  clear hr hf hE ho C H1
  go_wp2_with fail
  have HX := Lib.hid ((HR.out.dec2.al (S3.eO e (.slice A k c))).al (S3.eO e (.slice A k c)))
  have pHX := HX.out.ptr
  have FX := Lib.hid ((((Fr.refl b w2).setN (.int .i64 (d : Int))).al (S3.eO e (.slice A k c))).al (S3.eO e (.slice A k c)))
  have FY := Lib.hid (((Fr.refl b w2).setN (.int .i64 (d : Int))).al (S3.eO e (.slice A k c)))
  have EX := er_one HO.out (n := w1.heap.size) (by have := FY.out.size; omega) (er_fr HE.out (by omega) FY.out)
  have hsz : (((w2.setCell ⟨b.r, 1, none⟩ (.int .i64 (d : Int))).alloc (S3.eO e (.slice A k c)))).heap.size = w2.heap.size + 1 := by simp [World.setCell]
  rw [hsz] at EX
  have EX := Lib.hid EX
  have QX := Lib.hid (Q2.out.fr (by omega) FX.out)
  have ho4 := Lib.hid (okE_op (k := 4) (s := []) (args := [e]) (by decide) hop (by simp))
  generalize ((w2.setCell ⟨b.r, 1, none⟩ (.int .i64 (d : Int))).alloc (S3.eO e (.slice A k c))).alloc (S3.eO e (.slice A k c)) = w3 at *
  clear Q2 HR HE E2 p0 c0 c1 c2 f1 f2 FY hsz
  refine (whole_no HX.out hn ⟨4, op, 0, [], [e]⟩ ho4.out _ 1 1 (er_in EX.out (Nat.le_refl _)) hx).mono ?_
  rintro E w4 ⟨rfl, hb⟩
  have HB := Lib.hid hb
  clear hb
  go_wp2_with fail
  exact ⟨rfl, rfl, ((F1.out.trans HF.out).trans FX.out).trans (Fr.of HB.out)⟩
set_option maxRecDepth 100000 in
set_option maxHeartbeats 1000000 in
theorem roperand_num {w : World} {l : TL} {v : Value} {b : RB} {i d : Nat} (h : Rd w l v b i d) (hk : (tkAt l i).1 = 2) (r : Res)
    (C : ∀ W, Rd W l v b i d → Calls Tryz.prog 86 #[rp b] W (Post W l v b d r)) :
    Calls Tryz.prog 83 #[rp b] w (Post w l v b d r) := by
  have T := fun o => token_calls (h.al o)
  rw [hk] at T
  have T := Lib.hid T
  have H := Lib.hid (fun o => h.al o)
  have pH := h.ptr
  have Q := Lib.hid (fun a0 a1 a2 a3 a4 => R5.new w a0 a1 a2 a3 a4)
  have hbw := h.lt
  have C := Lib.hid C
  clear h
  clear hk
  generalize tkAt l i = t at *
  go_enter Tryz.func83, Tryz.ntmps83
  go_wp2_with fail
  refine (T.out _).mono ?_
  rintro e w1 ⟨⟨a, rfl⟩, hb1⟩
  have HB1 := Lib.hid (after (S3.bal w _) hb1)
  have F1 := Lib.hid (Fr.of (b := b) HB1.out)
  have H1 := Lib.hid ((H.out _).bel hb1)
  have pH1 := H1.out.ptr
  have Q1 := Lib.hid ((Q.out _ _ _ _ _).bel hb1)
  clear hb1 T
  have hrt := run_tk
  go_wp2_with fail
  refine (C.out _ H1.out).mono ?_
  intro E w9 hP
  cases r with
  | bad j c =>
    obtain ⟨rfl, hf⟩ := hP
    have HF := Lib.hid hf
    clear hf
    go_wp2_with fail
    exact ⟨rfl, rfl, F1.out.trans HF.out⟩
  | ok e n =>
    obtain ⟨A, k, c, rfl, ho, hE, hr, hf⟩ := hP
    have hq2 := Q1.out.lt
    obtain ⟨z0, z1, z2, z3, z4, r0, r1, r2, r3, r4, y0, y1, y2, y3, y4⟩ := (Q1.out.fr (by omega) hf).facts
    have HR := Lib.hid hr
    have pHR := HR.out.ptr
    have HF := Lib.hid hf
    have HE := Lib.hid hE
    have HO := Lib.hid ho
    clear hr hf hE ho
    go_wp2_with fail
    exact bodyPost_ret (v := S3.eV e (.slice A k c)) (by simp [results, Tryz.results83, go_sem, r0, r1, r2, r3, r4]) rfl (post_end (Nat.le_refl _) hq2 hbw F1.out HO.out HE.out HR.out HF.out _ _ _ _ _)
set_option maxRecDepth 100000 in
set_option maxHeartbeats 1000000 in
theorem roperand_name {w : World} {l : TL} {v : Value} {b : RB} {i d : Nat} (h : Rd w l v b i d) (hk : (tkAt l i).1 = 1) (r : Res)
    (C : ∀ W, Rd W l v b i d → Calls Tryz.prog 87 #[rp b] W (Post W l v b d r)) :
    Calls Tryz.prog 83 #[rp b] w (Post w l v b d r) := by
  have T := fun o => token_calls (h.al o)
  rw [hk] at T
  have T := Lib.hid T
  have H := Lib.hid (fun o => h.al o)
  have pH := h.ptr
  have Q := Lib.hid (fun a0 a1 a2 a3 a4 => R5.new w a0 a1 a2 a3 a4)
  have hbw := h.lt
  have C := Lib.hid C
  clear h
  clear hk
  generalize tkAt l i = t at *
  go_enter Tryz.func83, Tryz.ntmps83
  go_wp2_with fail
  refine (T.out _).mono ?_
  rintro e w1 ⟨⟨a, rfl⟩, hb1⟩
  have HB1 := Lib.hid (after (S3.bal w _) hb1)
  have F1 := Lib.hid (Fr.of (b := b) HB1.out)
  have H1 := Lib.hid ((H.out _).bel hb1)
  have pH1 := H1.out.ptr
  have Q1 := Lib.hid ((Q.out _ _ _ _ _).bel hb1)
  clear hb1 T
  have hrt := run_tk
  go_wp2_with fail
  refine (C.out _ H1.out).mono ?_
  intro E w9 hP
  cases r with
  | bad j c =>
    obtain ⟨rfl, hf⟩ := hP
    have HF := Lib.hid hf
    clear hf
    go_wp2_with fail
    exact ⟨rfl, rfl, F1.out.trans HF.out⟩
  | ok e n =>
    obtain ⟨A, k, c, rfl, ho, hE, hr, hf⟩ := hP
    have hq2 := Q1.out.lt
    obtain ⟨z0, z1, z2, z3, z4, r0, r1, r2, r3, r4, y0, y1, y2, y3, y4⟩ := (Q1.out.fr (by omega) hf).facts
    have HR := Lib.hid hr
    have pHR := HR.out.ptr
    have HF := Lib.hid hf
    have HE := Lib.hid hE
    have HO := Lib.hid ho
    clear hr hf hE ho
    go_wp2_with fail
    exact bodyPost_ret (v := S3.eV e (.slice A k c)) (by simp [results, Tryz.results83, go_sem, r0, r1, r2, r3, r4]) rfl (post_end (Nat.le_refl _) hq2 hbw F1.out HO.out HE.out HR.out HF.out _ _ _ _ _)
set_option maxRecDepth 100000 in
set_option maxHeartbeats 1000000 in
theorem roperand_key {w : World} {l : TL} {v : Value} {b : RB} {i d : Nat} (h : Rd w l v b i d) (hk : (tkAt l i).1 = 3) (r : Res)
    (C : ∀ W, Rd W l v b i d → Calls Tryz.prog 88 #[rp b] W (Post W l v b d r)) :
    Calls Tryz.prog 83 #[rp b] w (Post w l v b d r) := by
  have T := fun o => token_calls (h.al o)
  rw [hk] at T
  have T := Lib.hid T
  have H := Lib.hid (fun o => h.al o)
  have pH := h.ptr
  have Q := Lib.hid (fun a0 a1 a2 a3 a4 => R5.new w a0 a1 a2 a3 a4)
  have hbw := h.lt
  have C := Lib.hid C
  clear h
  clear hk
  generalize tkAt l i = t at *
  go_enter Tryz.func83, Tryz.ntmps83
  go_wp2_with fail
  refine (T.out _).mono ?_
  rintro e w1 ⟨⟨a, rfl⟩, hb1⟩
  have HB1 := Lib.hid (after (S3.bal w _) hb1)
  have F1 := Lib.hid (Fr.of (b := b) HB1.out)
  have H1 := Lib.hid ((H.out _).bel hb1)
  have pH1 := H1.out.ptr
  have Q1 := Lib.hid ((Q.out _ _ _ _ _).bel hb1)
  clear hb1 T
  have hrt := run_tk
  go_wp2_with fail
  refine (C.out _ H1.out).mono ?_
  intro E w9 hP
  cases r with
  | bad j c =>
    obtain ⟨rfl, hf⟩ := hP
    have HF := Lib.hid hf
    clear hf
    go_wp2_with fail
    exact ⟨rfl, rfl, F1.out.trans HF.out⟩
  | ok e n =>
    obtain ⟨A, k, c, rfl, ho, hE, hr, hf⟩ := hP
    have hq2 := Q1.out.lt
    obtain ⟨z0, z1, z2, z3, z4, r0, r1, r2, r3, r4, y0, y1, y2, y3, y4⟩ := (Q1.out.fr (by omega) hf).facts
    have HR := Lib.hid hr
    have pHR := HR.out.ptr
    have HF := Lib.hid hf
    have HE := Lib.hid hE
    have HO := Lib.hid ho
    clear hr hf hE ho
    go_wp2_with fail
    exact bodyPost_ret (v := S3.eV e (.slice A k c)) (by simp [results, Tryz.results83, go_sem, r0, r1, r2, r3, r4]) rfl (post_end (Nat.le_refl _) hq2 hbw F1.out HO.out HE.out HR.out HF.out _ _ _ _ _)
set_option maxRecDepth 100000 in
set_option maxHeartbeats 1000000 in
theorem roperand_sign {w : World} {l : TL} {v : Value} {b : RB} {i d : Nat} (h : Rd w l v b i d) (h1 : (tkAt l i).1 ≠ 1) (h2 : (tkAt l i).1 ≠ 2) (h3 : (tkAt l i).1 ≠ 3) (r : Res)
    (C : ∀ W, Rd W l v b i d → Calls Tryz.prog 89 #[rp b] W (Post W l v b d r)) :
    Calls Tryz.prog 83 #[rp b] w (Post w l v b d r) := by
  have T := fun o => token_calls (h.al o)
  have q1 : ((tkAt l i).1 == 1) = false := beq_eq_false_iff_ne.2 h1
  have q2 : ((tkAt l i).1 == 2) = false := beq_eq_false_iff_ne.2 h2
  have q3 : ((tkAt l i).1 == 3) = false := beq_eq_false_iff_ne.2 h3
  have T := Lib.hid T
  have H := Lib.hid (fun o => h.al o)
  have pH := h.ptr
  have Q := Lib.hid (fun a0 a1 a2 a3 a4 => R5.new w a0 a1 a2 a3 a4)
  have hbw := h.lt
  have C := Lib.hid C
  clear h
  clear h1 h2 h3
  generalize tkAt l i = t at *
  go_enter Tryz.func83, Tryz.ntmps83
  go_wp2_with fail
  refine (T.out _).mono ?_
  rintro e w1 ⟨⟨a, rfl⟩, hb1⟩
  have HB1 := Lib.hid (after (S3.bal w _) hb1)
  have F1 := Lib.hid (Fr.of (b := b) HB1.out)
  have H1 := Lib.hid ((H.out _).bel hb1)
  have pH1 := H1.out.ptr
  have Q1 := Lib.hid ((Q.out _ _ _ _ _).bel hb1)
  clear hb1 T
  have hrt := run_tk
  go_wp2_with fail
  refine (C.out _ H1.out).mono ?_
  intro E w9 hP
  cases r with
  | bad j c =>
    obtain ⟨rfl, hf⟩ := hP
    have HF := Lib.hid hf
    clear hf
    go_wp2_with fail
    exact ⟨rfl, rfl, F1.out.trans HF.out⟩
  | ok e n =>
    obtain ⟨A, k, c, rfl, ho, hE, hr, hf⟩ := hP
    have hq2 := Q1.out.lt
    obtain ⟨z0, z1, z2, z3, z4, r0, r1, r2, r3, r4, y0, y1, y2, y3, y4⟩ := (Q1.out.fr (by omega) hf).facts
    have HR := Lib.hid hr
    have pHR := HR.out.ptr
    have HF := Lib.hid hf
    have HE := Lib.hid hE
    have HO := Lib.hid ho
    clear hr hf hE ho
    go_wp2_with fail
    exact bodyPost_ret (v := S3.eV e (.slice A k c)) (by simp [results, Tryz.results83, go_sem, r0, r1, r2, r3, r4]) rfl (post_end (Nat.le_refl _) hq2 hbw F1.out HO.out HE.out HR.out HF.out _ _ _ _ _)
end Go.Proofs.YtipepljmfgjbpaaGreatDoor.E5

namespace Go.Proofs.YtipepljmfgjbpaaGreatDoor.E5
open Go Go.RowKit Go.Sort Go.Proofs.YtipepljmfgjbpaaGreatDoor

set_option maxRecDepth 100000 in
set_option maxHeartbeats 1000000 in
theorem rsigned_minus {w : World} {l : TL} {v : Value} {b : RB} {i d : Nat} (h : Rd w l v b i d) (hs : sgAt l i = [45]) (r : Res)
    (C : ∀ W, Rd W l v b i d → Calls Tryz.prog 95 #[rp b, .int .i64 14] W (Post W l v b d r)) :
    Calls Tryz.prog 89 #[rp b] w (Post w l v b d r) := by
  have S := fun o => rsign_calls (h.al o)
  rw [hs] at S
  have S := Lib.hid S
  have H := Lib.hid (fun o => h.al o)
  have pH := h.ptr
  have Q := Lib.hid (fun a0 a1 a2 a3 a4 => R5.new w a0 a1 a2 a3 a4)
  have hbw := h.lt
  have C := Lib.hid C
  clear h
  clear hs
  go_enter Tryz.func89, Tryz.ntmps89
  go_wp2_with fail
  refine (S.out _).mono ?_
  rintro e w1 ⟨rfl, hb1⟩
  have HB1 := Lib.hid (after (S3.bal w _) hb1)
  have F1 := Lib.hid (Fr.of (b := b) HB1.out)
  have H1 := Lib.hid ((H.out _).bel hb1)
  have pH1 := H1.out.ptr
  have Q1 := Lib.hid ((Q.out _ _ _ _ _).bel hb1)
  clear hb1
  go_wp2_with fail
  refine (C.out _ H1.out).mono ?_
  intro E w9 hP
  cases r with
  | bad j c =>
    obtain ⟨rfl, hf⟩ := hP
    have HF := Lib.hid hf
    clear hf
    go_wp2_with fail
    exact ⟨rfl, rfl, F1.out.trans HF.out⟩
  | ok e n =>
    obtain ⟨A, k, c, rfl, ho, hE, hr, hf⟩ := hP
    have hq2 := Q1.out.lt
    obtain ⟨z0, z1, z2, z3, z4, r0, r1, r2, r3, r4, y0, y1, y2, y3, y4⟩ := (Q1.out.fr (by omega) hf).facts
    have HR := Lib.hid hr
    have pHR := HR.out.ptr
    have HF := Lib.hid hf
    have HE := Lib.hid hE
    have HO := Lib.hid ho
    clear hr hf hE ho
    go_wp2_with fail
    exact bodyPost_ret (v := S3.eV e (.slice A k c)) (by simp [results, Tryz.results89, go_sem, r0, r1, r2, r3, r4]) rfl (post_end (Nat.le_refl _) hq2 hbw F1.out HO.out HE.out HR.out HF.out _ _ _ _ _)
set_option maxRecDepth 100000 in
set_option maxHeartbeats 1000000 in
theorem rsigned_not {w : World} {l : TL} {v : Value} {b : RB} {i d : Nat} (h : Rd w l v b i d) (hs : sgAt l i = [33]) (r : Res)
    (C : ∀ W, Rd W l v b i d → Calls Tryz.prog 95 #[rp b, .int .i64 15] W (Post W l v b d r)) :
    Calls Tryz.prog 89 #[rp b] w (Post w l v b d r) := by
  have S := fun o => rsign_calls (h.al o)
  rw [hs] at S
  have S := Lib.hid S
  have H := Lib.hid (fun o => h.al o)
  have pH := h.ptr
  have Q := Lib.hid (fun a0 a1 a2 a3 a4 => R5.new w a0 a1 a2 a3 a4)
  have hbw := h.lt
  have C := Lib.hid C
  clear h
  clear hs
  go_enter Tryz.func89, Tryz.ntmps89
  go_wp2_with fail
  refine (S.out _).mono ?_
  rintro e w1 ⟨rfl, hb1⟩
  have HB1 := Lib.hid (after (S3.bal w _) hb1)
  have F1 := Lib.hid (Fr.of (b := b) HB1.out)
  have H1 := Lib.hid ((H.out _).bel hb1)
  have pH1 := H1.out.ptr
  have Q1 := Lib.hid ((Q.out _ _ _ _ _).bel hb1)
  clear hb1
  go_wp2_with fail
  refine (C.out _ H1.out).mono ?_
  intro E w9 hP
  cases r with
  | bad j c =>
    obtain ⟨rfl, hf⟩ := hP
    have HF := Lib.hid hf
    clear hf
    go_wp2_with fail
    exact ⟨rfl, rfl, F1.out.trans HF.out⟩
  | ok e n =>
    obtain ⟨A, k, c, rfl, ho, hE, hr, hf⟩ := hP
    have hq2 := Q1.out.lt
    obtain ⟨z0, z1, z2, z3, z4, r0, r1, r2, r3, r4, y0, y1, y2, y3, y4⟩ := (Q1.out.fr (by omega) hf).facts
    have HR := Lib.hid hr
    have pHR := HR.out.ptr
    have HF := Lib.hid hf
    have HE := Lib.hid hE
    have HO := Lib.hid ho
    clear hr hf hE ho
    go_wp2_with fail
    exact bodyPost_ret (v := S3.eV e (.slice A k c)) (by simp [results, Tryz.results89, go_sem, r0, r1, r2, r3, r4]) rfl (post_end (Nat.le_refl _) hq2 hbw F1.out HO.out HE.out HR.out HF.out _ _ _ _ _)
set_option maxRecDepth 100000 in
set_option maxHeartbeats 1000000 in
theorem rsigned_par {w : World} {l : TL} {v : Value} {b : RB} {i d : Nat} (h : Rd w l v b i d) (hs : sgAt l i = [40]) (r : Res)
    (C : ∀ W, Rd W l v b i d → Calls Tryz.prog 93 #[rp b, .string (B [41])] W (Post W l v b d r)) :
    Calls Tryz.prog 89 #[rp b] w (Post w l v b d r) := by
  have S := fun o => rsign_calls (h.al o)
  rw [hs] at S
  have S := Lib.hid S
  have H := Lib.hid (fun o => h.al o)
  have pH := h.ptr
  have Q := Lib.hid (fun a0 a1 a2 a3 a4 => R5.new w a0 a1 a2 a3 a4)
  have hbw := h.lt
  have C := Lib.hid C
  clear h
  go_enter Tryz.func89, Tryz.ntmps89
  go_wp2_with fail
  refine (S.out _).mono ?_
  rintro e w1 ⟨rfl, hb1⟩
  have HB1 := Lib.hid (after (S3.bal w _) hb1)
  have H1 := Lib.hid ((H.out _).bel hb1)
  have pH1 := H1.out.ptr
  have Q1 := Lib.hid ((Q.out _ _ _ _ _).bel hb1)
  clear hb1
  go_wp2_with fail
  have KY := Lib.hid (fun n os => rsign_calls (H1.out.rg n os))
  rw [hs] at KY
  have pR := fun n os => cell_regrown pH1 n os
  refine wp_region_quiet_below (by kernel_rfl) (by kernel_rfl) ?_
  repeat (first | go_big_quiet_step (first | with_reducible exact Calls.regrown_of (KY.out _ _) | with_reducible exact Calls.regrown_of (need_yesB _ _)) | quiet_step (first | with_reducible exact Calls.regrown_of (KY.out _ _) | with_reducible exact Calls.regrown_of (need_yesB _ _)))
  refine wpQuiet_nil ?_
  intro _ hw'
  obtain ⟨⟨dq, osq⟩, hw''⟩ := hw'
  subst hw''
  have HB2 := Lib.hid (after HB1.out (below_regrown w1 dq osq))
  have H2 := Lib.hid (H1.out.rg dq osq)
  have pH2 := H2.out.ptr
  have Q2 := Lib.hid (Q1.out.bel (below_regrown w1 dq osq))
  clear KY pR H1 Q1 pH1
  generalize grow (redrawn w1 dq) osq = w2 at *
  have F2 := Lib.hid (Fr.of (b := b) HB2.out)
  clear hs
  go_wp2_with fail
  refine (C.out _ H2.out).mono ?_
  intro E w9 hP
  cases r with
  | bad j c =>
    obtain ⟨rfl, hf⟩ := hP
    have HF := Lib.hid hf
    clear hf
    go_wp2_with fail
    exact ⟨rfl, rfl, F2.out.trans HF.out⟩
  | ok e n =>
    obtain ⟨A, k, c, rfl, ho, hE, hr, hf⟩ := hP
    have hq2 := Q2.out.lt
    obtain ⟨z0, z1, z2, z3, z4, r0, r1, r2, r3, r4, y0, y1, y2, y3, y4⟩ := (Q2.out.fr (by omega) hf).facts
    have HR := Lib.hid hr
    have pHR := HR.out.ptr
    have HF := Lib.hid hf
    have HE := Lib.hid hE
    have HO := Lib.hid ho
    clear hr hf hE ho
    go_wp2_with fail
    exact bodyPost_ret (v := S3.eV e (.slice A k c)) (by simp [results, Tryz.results89, go_sem, r0, r1, r2, r3, r4]) rfl (post_end (Nat.le_refl _) hq2 hbw F2.out HO.out HE.out HR.out HF.out _ _ _ _ _)
set_option maxRecDepth 100000 in
set_option maxHeartbeats 1000000 in
theorem rsigned_no {w : World} {l : TL} {v : Value} {b : RB} {i d : Nat} (h : Rd w l v b i d) (h1 : sgAt l i ≠ [45]) (h2 : sgAt l i ≠ [33]) (h3 : sgAt l i ≠ [40]) :
    Calls Tryz.prog 89 #[rp b] w (Post w l v b d (.bad i 7)) := by
  have S := Lib.hid (fun o => rsign_calls (h.al o))
  have q1 : (sgAt l i == [45]) = false := beq_eq_false_iff_ne.2 h1
  have q2 : (sgAt l i == [33]) = false := beq_eq_false_iff_ne.2 h2
  have q3 : (sgAt l i == [40]) = false := beq_eq_false_iff_ne.2 h3
  have C := True.intro
  have H := Lib.hid (fun o => h.al o)
  have pH := h.ptr
  have Q := Lib.hid (fun a0 a1 a2 a3 a4 => R5.new w a0 a1 a2 a3 a4)
  have hbw := h.lt
  have C := Lib.hid C
  clear h
  clear h1 h2 h3
  go_enter Tryz.func89, Tryz.ntmps89
  go_wp2_with fail
  refine (S.out _).mono ?_
  rintro e w1 ⟨rfl, hb1⟩
  have HB1 := Lib.hid (after (S3.bal w _) hb1)
  have H1 := Lib.hid ((H.out _).bel hb1)
  have pH1 := H1.out.ptr
  have Q1 := Lib.hid ((Q.out _ _ _ _ _).bel hb1)
  clear hb1
  go_wp2_with fail
  have T := Lib.hid (fun W (hW : Rd W l v b i d) => rsign_calls hW)
  go_region_with (first
    | (go_at_call 40; refine (T.out _ (by exact H1.out.dr)).mono ?_; rintro e w2 ⟨rfl, hb2⟩; have HB2 := Lib.hid (after HB1.out.drew hb2); have H2 := Lib.hid (H1.out.dr.bel hb2); have pH2 := H2.out.ptr; clear hb2)
    | (go_at_call 39; refine (need_no H2.out).mono ?_; rintro e w3 ⟨rfl, rfl⟩; go_simp; refine fake_any (by exact ⟨rfl, rfl, Fr.of HB2.out⟩) ?_))
  all_goals exact trivial
set_option maxRecDepth 100000 in
set_option maxHeartbeats 1000000 in
theorem rvar_bad {w : World} {l : TL} {v : Value} {b : RB} {i d : Nat} (h : Rd w l v b i d) (hn : nmTok (tkAt l i) = false) :
    Calls Tryz.prog 87 #[rp b] w (Post w l v b d (.bad i 7)) := by
  have HN := Lib.hid hn
  have C := True.intro
  have H := Lib.hid (fun o => h.al o)
  have pH := h.ptr
  have Q := Lib.hid (fun a0 a1 a2 a3 a4 => R5.new w a0 a1 a2 a3 a4)
  have hbw := h.lt
  have C := Lib.hid C
  clear h
  clear hn
  go_enter Tryz.func87, Tryz.ntmps87
  go_wp2_with fail
  refine (rname_no (H.out _) HN.out).mono ?_
  rintro e w1 ⟨rfl, hf⟩
  have HF := Lib.hid hf
  clear hf
  go_wp2_with fail
  exact ⟨rfl, rfl, (Fr.of (S3.bal w _)).trans HF.out⟩
set_option maxRecDepth 100000 in
set_option maxHeartbeats 1000000 in
theorem rvar_plain {w : World} {l : TL} {v : Value} {b : RB} {i d : Nat} (h : Rd w l v b i d) (hn : nmTok (tkAt l i) = true) (hs : sgAt l (i + 1) ≠ [91]) :
    Calls Tryz.prog 87 #[rp b] w (Post w l v b d (.ok ⟨3, 0, 0, (tkAt l i).2, []⟩ (i + 1))) := by
  have HN := Lib.hid hn
  have hln := h.text i
  have q : (sgAt l (i + 1) == [91]) = false := beq_eq_false_iff_ne.2 hs
  have C := True.intro
  have H := Lib.hid (fun o => h.al o)
  have pH := h.ptr
  have Q := Lib.hid (fun a0 a1 a2 a3 a4 => R5.new w a0 a1 a2 a3 a4)
  have hbw := h.lt
  have C := Lib.hid C
  clear h
  clear hn hs
  go_enter Tryz.func87, Tryz.ntmps87
  go_wp2_with fail
  refine (rname_yes (H.out _) HN.out).mono ?_
  rintro e w1 ⟨rfl, hr, hf⟩
  have H1 := Lib.hid hr
  have pH1 := H1.out.ptr
  have F1 := Lib.hid ((Fr.of (S3.bal w _)).trans hf)
  have Q1 := Lib.hid ((Q.out _ _ _ _ _).fr (by omega) hf)
  have S := Lib.hid (rsign_calls hr)
  clear hr hf
  go_wp2_with fail
  refine S.out.mono ?_
  rintro e w2 ⟨rfl, hb2⟩
  have H2 := Lib.hid (H1.out.bel hb2)
  have pH2 := H2.out.ptr
  have F2 := Lib.hid (F1.out.trans (Fr.of (b := b) hb2))
  have Q2 := Lib.hid (Q1.out.bel hb2)
  clear hb2 S H1 Q1
  have hq2 := Q2.out.lt
  obtain ⟨z0, z1, z2, z3, z4, r0, r1, r2, r3, r4, y0, y1, y2, y3, y4⟩ := Q2.out.facts
  generalize (tkAt l i).2 = s at *
  go_wp2_with fail
  exact bodyPost_ret (v := S3.eV ⟨3, 0, 0, s, []⟩ (.slice none 0 0)) (by simp [results, Tryz.results87, go_sem, r0, r1, r2, r3, r4]) rfl (post_end (Nat.le_refl _) hq2 hbw F2.out (okE_leaf (by decide) (okI_small (by decide) (by decide)) hln) (er_nil _ _) H2.out (Fr.refl b _) _ _ _ _ _)
set_option maxRecDepth 100000 in
set_option maxHeartbeats 1000000 in
theorem rvar_ibad {w : World} {l : TL} {v : Value} {b : RB} {i d : Nat} (h : Rd w l v b i d) (hn : nmTok (tkAt l i) = true) (hs : sgAt l (i + 1) = [91]) (j : Nat) (c : Int)
    (C : ∀ W, Rd W l v b (i + 1) d → Calls Tryz.prog 93 #[rp b, .string (B [93])] W (Post W l v b d (.bad j c))) :
    Calls Tryz.prog 87 #[rp b] w (Post w l v b d (.bad j c)) := by
  have HN := Lib.hid hn
  have hln := h.text i
  have H := Lib.hid (fun o => h.al o)
  have pH := h.ptr
  have Q := Lib.hid (fun a0 a1 a2 a3 a4 => R5.new w a0 a1 a2 a3 a4)
  have hbw := h.lt
  have C := Lib.hid C
  clear h
  clear hn
  go_enter Tryz.func87, Tryz.ntmps87
  go_wp2_with fail
  refine (rname_yes (H.out _) HN.out).mono ?_
  rintro e w1 ⟨rfl, hr, hf⟩
  have H1 := Lib.hid hr
  have pH1 := H1.out.ptr
  have F1 := Lib.hid ((Fr.of (S3.bal w _)).trans hf)
  have Q1 := Lib.hid ((Q.out _ _ _ _ _).fr (by omega) hf)
  have S := Lib.hid (rsign_calls hr)
  clear hr hf
  go_wp2_with fail
  refine S.out.mono ?_
  rintro e w2 ⟨rfl, hb2⟩
  have H2 := Lib.hid (H1.out.bel hb2)
  have pH2 := H2.out.ptr
  have F2 := Lib.hid (F1.out.trans (Fr.of (b := b) hb2))
  have Q2 := Lib.hid (Q1.out.bel hb2)
  clear hb2 S H1 Q1
  rw [hs]
  clear hs
  generalize (tkAt l i).2 = s at *
  go_wp2_with fail
  refine (C.out _ H2.out).mono ?_
  rintro E w3 ⟨rfl, hf⟩
  have HF := Lib.hid hf
  clear hf
  go_wp2_with fail
  exact ⟨rfl, rfl, F2.out.trans HF.out⟩
set_option maxRecDepth 100000 in
set_option maxHeartbeats 1000000 in
theorem rvar_iyes {w : World} {l : TL} {v : Value} {b : RB} {i d : Nat} (h : Rd w l v b i d) (hn : nmTok (tkAt l i) = true) (hs : sgAt l (i + 1) = [91]) (e : Ex) (n : Nat) (hx : S3.exB ⟨6, 0, 0, (tkAt l i).2, [e]⟩ = true)
    (C : ∀ W, Rd W l v b (i + 1) d → Calls Tryz.prog 93 #[rp b, .string (B [93])] W (Post W l v b d (.ok e n))) :
    Calls Tryz.prog 87 #[rp b] w (Post w l v b d (.ok ⟨6, 0, 0, (tkAt l i).2, [e]⟩ n)) := by
  have HN := Lib.hid hn
  have hln := h.text i
  have H := Lib.hid (fun o => h.al o)
  have pH := h.ptr
  have Q := Lib.hid (fun a0 a1 a2 a3 a4 => R5.new w a0 a1 a2 a3 a4)
  have hbw := h.lt
  have C := Lib.hid C
  clear h
  clear hn
  go_enter Tryz.func87, Tryz.ntmps87
  go_wp2_with fail
  refine (rname_yes (H.out _) HN.out).mono ?_
  rintro e w1 ⟨rfl, hr, hf⟩
  have H1 := Lib.hid hr
  have pH1 := H1.out.ptr
  have F1 := Lib.hid ((Fr.of (S3.bal w _)).trans hf)
  have Q1 := Lib.hid ((Q.out _ _ _ _ _).fr (by omega) hf)
  have S := Lib.hid (rsign_calls hr)
  clear hr hf
  go_wp2_with fail
  refine S.out.mono ?_
  rintro e w2 ⟨rfl, hb2⟩
  have H2 := Lib.hid (H1.out.bel hb2)
  have pH2 := H2.out.ptr
  have F2 := Lib.hid (F1.out.trans (Fr.of (b := b) hb2))
  have Q2 := Lib.hid (Q1.out.bel hb2)
  clear hb2 S H1 Q1
  rw [hs]
  clear hs
  generalize (tkAt l i).2 = s at *
  go_wp2_with fail
  refine (C.out _ H2.out).mono ?_
  rintro E w3 ⟨A, k, c, rfl, ho, hE, hr, hf⟩
  have hq2 := Q2.out.lt
  have Q3 := Lib.hid (Q2.out.fr (by omega) hf)
  have HR := Lib.hid hr
  have pHR := HR.out.ptr
  have HF := Lib.hid hf
  have HE := Lib.hid hE
  have HO := Lib.hid ho
  have hb3 := hr.lt
  have hz3 := hf.size
  clear hr hf hE ho C Q2
  go_wp2_with fail
  have HX := Lib.hid ((HR.out.al (S3.eO e (.slice A k c))).al (S3.eO e (.slice A k c)))
  have pHX := HX.out.ptr
  have FX := Lib.hid (((Fr.refl b w3).al (S3.eO e (.slice A k c))).al (S3.eO e (.slice A k c)))
  have FY := Lib.hid ((Fr.refl b w3).al (S3.eO e (.slice A k c)))
  have EX := er_one HO.out (n := w2.heap.size) (by have := FY.out.size; omega) (er_fr HE.out (by omega) FY.out)
  rw [show (w3.alloc (S3.eO e (.slice A k c))).heap.size = w3.heap.size + 1 from S3.sz1 _ _] at EX
  have EX := Lib.hid EX
  have QX := Lib.hid (Q3.out.fr (by omega) FX.out)
  have ho4 := Lib.hid (okE_op (k := 6) (s := s) (args := [e]) (by decide) (okI_small (Int.le_refl 0) (by decide)) hln)
  generalize (w3.alloc (S3.eO e (.slice A k c))).alloc (S3.eO e (.slice A k c)) = w4 at *
  clear Q3 HR HE FY
  refine (whole_yes HX.out ⟨6, 0, 0, s, [e]⟩ ho4.out _ 1 1 (er_in EX.out (Nat.le_refl _)) hx).mono ?_
  rintro E w5 ⟨rfl, hb⟩
  have HB := Lib.hid hb
  obtain ⟨z0, z1, z2, z3, z4, r0, r1, r2, r3, r4, y0, y1, y2, y3, y4⟩ := (QX.out.bel hb).facts
  clear hb
  go_wp2_with fail
  exact bodyPost_ret (v := S3.eV ⟨6, 0, 0, s, [e]⟩ (.slice (some ⟨w3.heap.size + 1, 0, none⟩) 1 1)) (by simp [results, Tryz.results87, go_sem, r0, r1, r2, r3, r4]) rfl (post_end (wc := w2) (Nat.le_refl _) hq2 hbw F2.out ho4.out (er_bel EX.out HB.out) (HX.out.bel HB.out) ((HF.out.trans FX.out).trans (Fr.of HB.out)) _ _ _ _ _)
set_option maxRecDepth 100000 in
set_option maxHeartbeats 1000000 in
theorem rvar_ino {w : World} {l : TL} {v : Value} {b : RB} {i d : Nat} (h : Rd w l v b i d) (hn : nmTok (tkAt l i) = true) (hs : sgAt l (i + 1) = [91]) (e : Ex) (n : Nat) (h1n : 1 ≤ n) (hx : S3.exB ⟨6, 0, 0, (tkAt l i).2, [e]⟩ = false)
    (C : ∀ W, Rd W l v b (i + 1) d → Calls Tryz.prog 93 #[rp b, .string (B [93])] W (Post W l v b d (.ok e n))) :
    Calls Tryz.prog 87 #[rp b] w (Post w l v b d (.bad (n - 1) 8)) := by
  have HN := Lib.hid hn
  have hln := h.text i
  have H := Lib.hid (fun o => h.al o)
  have pH := h.ptr
  have Q := Lib.hid (fun a0 a1 a2 a3 a4 => R5.new w a0 a1 a2 a3 a4)
  have hbw := h.lt
  have C := Lib.hid C
  clear h
  clear hn
  go_enter Tryz.func87, Tryz.ntmps87
  go_wp2_with fail
  refine (rname_yes (H.out _) HN.out).mono ?_
  rintro e w1 ⟨rfl, hr, hf⟩
  have H1 := Lib.hid hr
  have pH1 := H1.out.ptr
  have F1 := Lib.hid ((Fr.of (S3.bal w _)).trans hf)
  have Q1 := Lib.hid ((Q.out _ _ _ _ _).fr (by omega) hf)
  have S := Lib.hid (rsign_calls hr)
  clear hr hf
  go_wp2_with fail
  refine S.out.mono ?_
  rintro e w2 ⟨rfl, hb2⟩
  have H2 := Lib.hid (H1.out.bel hb2)
  have pH2 := H2.out.ptr
  have F2 := Lib.hid (F1.out.trans (Fr.of (b := b) hb2))
  have Q2 := Lib.hid (Q1.out.bel hb2)
  clear hb2 S H1 Q1
  rw [hs]
  clear hs
  generalize (tkAt l i).2 = s at *
  go_wp2_with fail
  refine (C.out _ H2.out).mono ?_
  rintro E w3 ⟨A, k, c, rfl, ho, hE, hr, hf⟩
  have hq2 := Q2.out.lt
  have Q3 := Lib.hid (Q2.out.fr (by omega) hf)
  have HR := Lib.hid hr
  have pHR := HR.out.ptr
  have HF := Lib.hid hf
  have HE := Lib.hid hE
  have HO := Lib.hid ho
  have hb3 := hr.lt
  have hz3 := hf.size
  clear hr hf hE ho C Q2
  go_wp2_with fail
  have HX := Lib.hid ((HR.out.al (S3.eO e (.slice A k c))).al (S3.eO e (.slice A k c)))
  have pHX := HX.out.ptr
  have FX := Lib.hid (((Fr.refl b w3).al (S3.eO e (.slice A k c))).al (S3.eO e (.slice A k c)))
  have FY := Lib.hid ((Fr.refl b w3).al (S3.eO e (.slice A k c)))
  have EX := er_one HO.out (n := w2.heap.size) (by have := FY.out.size; omega) (er_fr HE.out (by omega) FY.out)
  rw [show (w3.alloc (S3.eO e (.slice A k c))).heap.size = w3.heap.size + 1 from S3.sz1 _ _] at EX
  have EX := Lib.hid EX
  have QX := Lib.hid (Q3.out.fr (by omega) FX.out)
  have ho4 := Lib.hid (okE_op (k := 6) (s := s) (args := [e]) (by decide) (okI_small (Int.le_refl 0) (by decide)) hln)
  generalize (w3.alloc (S3.eO e (.slice A k c))).alloc (S3.eO e (.slice A k c)) = w4 at *
  clear Q3 HR HE FY
  refine (whole_no HX.out h1n ⟨6, 0, 0, s, [e]⟩ ho4.out _ 1 1 (er_in EX.out (Nat.le_refl _)) hx).mono ?_
  rintro E w5 ⟨rfl, hb⟩
  have HB := Lib.hid hb
  clear hb
  go_wp2_with fail
  exact ⟨rfl, rfl, ((F2.out.trans HF.out).trans FX.out).trans (Fr.of HB.out)⟩
end Go.Proofs.YtipepljmfgjbpaaGreatDoor.E5

namespace Go.Proofs.YtipepljmfgjbpaaGreatDoor.E5
open Go Go.RowKit Go.Proofs.YtipepljmfgjbpaaGreatDoor

/-- Blocks from n on, below m, but q. -/
abbrev Rx (q n m : Nat) : Nat → Prop := fun x => n ≤ x ∧ x < m ∧ x ≠ q
theorem er_two' {w : World} {R R' : Nat → Prop} {a b : Ex} {va vb : Value} (ha : S3.OkE a) (hb : S3.OkE b) (hR : ∀ x, R x → R' x ∧ x < w.heap.size) (hn : R' w.heap.size) (h1 : S3.ER w R a.args va) (h2 : S3.ER w R b.args vb) :
    S3.ER (w.alloc (eO2 a va b vb)) R' [a, b] (.slice (some ⟨w.heap.size, 0, none⟩) 2 2) := by
  have k := fun (i : Nat) (u : Value) (h : (#[.int .i64 a.kind, .int .i64 a.op, .int .i64 a.num, .string (B a.name), va, .int .i64 b.kind, .int .i64 b.op, .int .i64 b.num, .string (B b.name), vb] : Array Value)[i]? = some u) => S3.newCell w _ 67 i u h
  refine .mk [a, b] (some ⟨w.heap.size, 0, none⟩) 2 (fun i => if i = 0 then va else vb) (by simp) (fun i e he => ?_) (fun i e he => ?_)
  · match i, he with
    | 0, he => cases he; exact ⟨_, 0, rfl, hn, ha, ⟨k 0 _ rfl, k 1 _ rfl, k 2 _ rfl, k 3 _ rfl, k 4 _ rfl⟩⟩
    | 1, he => cases he; exact ⟨_, 0, rfl, hn, hb, ⟨k 5 _ rfl, k 6 _ rfl, k 7 _ rfl, k 8 _ rfl, k 9 _ rfl⟩⟩
    | i + 2, he => simp at he
  · match i, he with
    | 0, he => cases he; exact h1.keep (fun x hx => (hR x hx).1) fun x i hx => (S3.bal w _).cell (hR x hx).2
    | 1, he => cases he; exact h2.keep (fun x hx => (hR x hx).1) fun x i hx => (S3.bal w _).cell (hR x hx).2
    | i + 2, he => simp at he
theorem put5_row {w : World} {q : Nat} (h : R5 w q) (a0 a1 a2 a3 a4 : Value) : (put5 w q a0 a1 a2 a3 a4).heap[q]? = some (.cells #[a0, a1, a2, a3, a4] 67 (0, 0)) := by
  obtain ⟨x0, x1, x2, x3, x4, h⟩ := h
  unfold put5
  simp only [World.setCell, Array.getElem?_modify, if_true, h]
  rfl
/-- Where the reader stands. -/
def atOf (b : RB) (w : World) : Nat := match w.cell? ⟨b.c, 1, none⟩ with
  | some x => (intOf x).toNat
  | none => 0
theorem atOf_is {w : World} {l : TL} {v : Value} {b : RB} {i d : Nat} (h : Rd w l v b i d) : atOf b w = i := by
  unfold atOf; rw [h.cu.cells.2.1]; simp [intOf]
/-- What has been read after some operators: e, in block q. -/
structure CI (w : World) (l : TL) (v : Value) (b : RB) (d q : Nat) (r : Res) (m : Int) (e : Ex) (A : Option Addr) (k c n : Nat) (wr : World) : Prop where
  rd : Rd wr l v b n d
  one : 1 ≤ n
  ok : S3.OkE e
  row : wr.heap[q]? = some (.cells #[.int .i64 e.kind, .int .i64 e.op, .int .i64 e.num, .string (S3.B e.name), .slice A k c] 67 (0, 0))
  er : S3.ER wr (Rx q (w.heap.size + 1) wr.heap.size) e.args (.slice A k c)
  res : R5 wr w.heap.size
  fr : Fr b w wr
  lop : r = lopR l e n d m
theorem row5_facts {w : World} {q : Nat} {a0 a1 a2 a3 a4 : Value} (h : w.heap[q]? = some (.cells #[a0, a1, a2, a3, a4] 67 (0, 0))) : w.cell? ⟨q, 0, none⟩ = some a0 ∧ w.cell? ⟨q, 1, none⟩ = some a1 ∧ w.cell? ⟨q, 2, none⟩ = some a2 ∧ w.cell? ⟨q, 3, none⟩ = some a3 ∧ w.cell? ⟨q, 4, none⟩ = some a4 :=
  ⟨(cell_of_row _ _ 0 _ _ _ h).trans rfl, (cell_of_row _ _ 1 _ _ _ h).trans rfl, (cell_of_row _ _ 2 _ _ _ h).trans rfl, (cell_of_row _ _ 3 _ _ _ h).trans rfl, (cell_of_row _ _ 4 _ _ _ h).trans rfl⟩
theorem row5_lt {w : World} {q : Nat} {o : Obj} (h : w.heap[q]? = some o) : q < w.heap.size := by
  rcases Nat.lt_or_ge q w.heap.size with h1 | h1
  · exact h1
  · rw [Array.getElem?_eq_none h1] at h; cases h

theorem CI.bel {w : World} {l : TL} {v : Value} {b : RB} {d q : Nat} {r : Res} {m : Int} {e : Ex} {A : Option Addr} {k c n : Nat} {wr wr' : World} (h : CI w l v b d q r m e A k c n wr) (hb : Below wr.heap.size wr wr') : CI w l v b d q r m e A k c n wr' :=
  ⟨h.rd.bel hb, h.one, h.ok, (hb.block q (row5_lt h.row)).trans h.row, h.er.keep (fun _ hx => ⟨hx.1, Nat.lt_of_lt_of_le hx.2.1 hb.size, hx.2.2⟩) (fun _ _ hx => hb.cell hx.2.1), h.res.bel hb, h.fr.trans (.of hb), h.lop⟩

theorem CI.mv {w : World} {l : TL} {v : Value} {b : RB} {d q : Nat} {r : Res} {m : Int} {e : Ex} {A : Option Addr} {k c n : Nat} {wr wr' : World} (h : CI w l v b d q r m e A k c n wr) (hbw : b < w.heap.size) (hq : w.heap.size + 1 ≤ q) (hf : Fr b wr wr') :
    wr'.heap[q]? = some (.cells #[.int .i64 e.kind, .int .i64 e.op, .int .i64 e.num, .string (S3.B e.name), .slice A k c] 67 (0, 0)) ∧ S3.ER wr' (Rx q (w.heap.size + 1) wr'.heap.size) e.args (.slice A k c) ∧ R5 wr' w.heap.size ∧ Fr b w wr' :=
  ⟨(hf.block q (row5_lt h.row) (by omega)).trans h.row, h.er.keep (fun _ hx => ⟨hx.1, Nat.lt_of_lt_of_le hx.2.1 hf.size, hx.2.2⟩) (fun _ _ hx => hf.cell hx.2.1 (by have := hx.1; omega)), h.res.fr (by omega) hf, h.fr.trans hf⟩
theorem R5.put {w : World} {q k : Nat} (h : R5 w k) (hk : k ≠ q) (a0 a1 a2 a3 a4 : Value) : R5 (put5 w q a0 a1 a2 a3 a4) k := by
  obtain ⟨x0, x1, x2, x3, x4, h⟩ := h
  exact ⟨x0, x1, x2, x3, x4, (put5_heap w q a0 a1 a2 a3 a4 k hk).trans h⟩

theorem CI.next {w : World} {l : TL} {v : Value} {b : RB} {d q : Nat} {r : Res} {m : Int} {e : Ex} {A : Option Addr} {k c n : Nat} {wg : World} (hbw : b < w.heap.size) (hq : w.heap.size + 1 ≤ q) (rd : Rd wg l v b n d) (one : 1 ≤ n) (ok : S3.OkE e) (pg : R5 wg q)
    (er : S3.ER wg (Rx q (w.heap.size + 1) wg.heap.size) e.args (.slice A k c)) (res : R5 wg w.heap.size) (fr : Fr b w wg) (hl : r = lopR l e n d m) :
    CI w l v b d q r m e A k c n (put5 wg q (.int .i64 e.kind) (.int .i64 e.op) (.int .i64 e.num) (.string (S3.B e.name)) (.slice A k c)) := by
  have h1 := put5_rd rd (show b < q by omega) (.int .i64 e.kind) (.int .i64 e.op) (.int .i64 e.num) (.string (S3.B e.name)) (.slice A k c)
  have h2 := put5_row pg (.int .i64 e.kind) (.int .i64 e.op) (.int .i64 e.num) (.string (S3.B e.name)) (.slice A k c)
  have h3 := res.put (show w.heap.size ≠ q by omega) (.int .i64 e.kind) (.int .i64 e.op) (.int .i64 e.num) (.string (S3.B e.name)) (.slice A k c)
  have h4 := put5_fr fr (show w.heap.size ≤ q by omega) (.int .i64 e.kind) (.int .i64 e.op) (.int .i64 e.num) (.string (S3.B e.name)) (.slice A k c)
  have h5 := put5_size wg q (.int .i64 e.kind) (.int .i64 e.op) (.int .i64 e.num) (.string (S3.B e.name)) (.slice A k c)
  have h6 := put5_heap wg q (.int .i64 e.kind) (.int .i64 e.op) (.int .i64 e.num) (.string (S3.B e.name)) (.slice A k c)
  generalize put5 wg q (.int .i64 e.kind) (.int .i64 e.op) (.int .i64 e.num) (.string (S3.B e.name)) (.slice A k c) = wh at *
  exact ⟨h1, one, ok, h2, er.keep (fun y hy => ⟨hy.1, by rw [h5]; exact hy.2.1, hy.2.2⟩) (fun y _ hy => World.cell?_of_block (w := wg) (h6 y hy.2.2)), h3, h4, hl⟩

set_option maxRecDepth 100000 in
set_option maxHeartbeats 1000000 in
theorem rclimb_bad {w : World} {l : TL} {v : Value} {b : RB} {i d : Nat} (h : Rd w l v b i d) (m : Int) (j : Nat) (c : Int)
    (C : ∀ W, Rd W l v b i d → Calls Tryz.prog 83 #[rp b] W (Post W l v b d (.bad j c))) :
    Calls Tryz.prog 80 #[rp b, .int .i64 m] w (Post w l v b d (.bad j c)) := by
  have H := Lib.hid (fun o => h.al o)
  have pH := h.ptr
  have C := Lib.hid C
  clear h
  go_enter Tryz.func80, Tryz.ntmps80
  go_wp2_with fail
  refine (C.out _ (H.out _)).mono ?_
  rintro E w1 ⟨rfl, hf⟩
  have HF := Lib.hid hf
  clear hf
  go_wp2_with fail
  exact ⟨rfl, rfl, (Fr.of (S3.bal w _)).trans HF.out⟩

set_option maxRecDepth 100000 in
set_option maxHeartbeats 4000000 in
theorem rclimb_ok {w : World} {l : TL} {v : Value} {b : RB} {i d : Nat} (h : Rd w l v b i d) (m : Int) (hm : 1 ≤ m) (e0 : Ex) (n0 : Nat) (hn0 : i < n0) (r : Res) (hr : r = lopR l e0 n0 d m)
    (C : ∀ W, Rd W l v b i d → Calls Tryz.prog 83 #[rp b] W (Post W l v b d (.ok e0 n0)))
    (CB : ∀ j m', i < j → j ≤ l.length → 1 ≤ m' → m' ≤ 6 → ∀ W, Rd W l v b j d → Calls Tryz.prog 80 #[rp b, .int .i64 m'] W (Post W l v b d (binR l j d m'))) :
    Calls Tryz.prog 80 #[rp b, .int .i64 m] w (Post w l v b d r) := by
  have H := Lib.hid (fun o => h.al o)
  have pH := h.ptr
  have Q := Lib.hid (fun a0 a1 a2 a3 a4 => R5.new w a0 a1 a2 a3 a4)
  have hbw := h.lt
  have C := Lib.hid C
  have CB := Lib.hid CB
  have HR := Lib.hid hr
  clear h hr
  go_enter Tryz.func80, Tryz.ntmps80
  go_wp2_with fail
  refine (C.out _ (H.out _)).mono ?_
  rintro E w1 ⟨A0, k0, c0, rfl, ho, hE, hr, hf⟩
  have hz1 := hf.size
  rw [S3.sz1] at hz1
  have H1 := Lib.hid (show CI w l v b d w1.heap.size r m e0 A0 k0 c0 n0 (w1.alloc (S3.eO e0 (.slice A0 k0 c0))) from
    ⟨hr.al _, by omega, ho, heap_alloc_new w1 _, hE.keep (fun x hx => ⟨by have := hx.1; rw [S3.sz1] at this; exact this, by rw [S3.sz1]; have := hx.2; omega, by have := hx.2; omega⟩) (fun _ _ hx => (S3.bal w1 _).cell hx.2),
      ((Q.out _ _ _ _ _).fr (by omega) hf).bel (S3.bal w1 _), ((Fr.of (S3.bal w _)).trans hf).al _, HR.out⟩)
  clear ho hE hr hf C H Q HR
  generalize hq : w1.heap.size = q at *
  go_wp2_with fail
  generalize w1.alloc (S3.eO e0 (.slice A0 k0 c0)) = w2 at *
  go_loopw [6, 7] (fun _ _ wr => ∃ e A k c n, Hid (CI w l v b d q r m e A k c n wr) ∧ i < n) (fun _ _ wr => l.length - atOf b wr)
  case atStart => exact ⟨e0, A0, k0, c0, n0, H1, hn0⟩
  case round =>
    obtain ⟨e, A, k, c, n, HI, hin⟩ := hrel
    have pHI := HI.out.rd.ptr
    have HG := Lib.hid (show 1 ≤ n from HI.out.one)
    have hnle := HI.out.rd.hi
    by_cases hrk : (opB (sgAt l n)).2 < m
    · obtain rfl : r = .ok e n := HI.out.lop.trans (lopR_end l e n d m hrk)
      go_wp2_with fail
      refine (rsign_calls HI.out.rd).mono ?_
      rintro E wa ⟨rfl, hb⟩
      have HIa := Lib.hid (HI.out.bel hb)
      have pHIa := HIa.out.rd.ptr
      clear hb HI
      go_wp2_with fail
      refine (op_calls (sgAt l n) _ HIa.out.rd.g.o).mono ?_
      rintro E wb ⟨rfl, hb⟩
      have HIb := Lib.hid (HIa.out.bel hb)
      have pHIb := HIb.out.rd.ptr
      clear hb HIa
      generalize (opB (sgAt l n)).2 = rk at *
      generalize (opB (sgAt l n)).1 = op at *
      obtain ⟨e0, e1, e2, e3, e4⟩ := row5_facts HIb.out.row
      obtain ⟨z0, z1, z2, z3, z4, r0, r1, r2, r3, r4, y0, y1, y2, y3, y4⟩ := HIb.out.res.facts
      have hres := HIb.out.res.lt
      go_wp2_with fail
      refine bodyPost_ret (v := S3.eV e (.slice A k c)) (by simp [results, Tryz.results80, go_sem, r0, r1, r2, r3, r4]) rfl ⟨A, k, c, rfl, HIb.out.ok, ?_, put5_rd HIb.out.rd hbw _ _ _ _ _, put5_fr HIb.out.fr (Nat.le_refl _) _ _ _ _ _⟩
      exact HIb.out.er.keep (fun x hx => ⟨by have := hx.1; omega, by rw [put5_size]; exact hx.2.1⟩) (fun x _ hx => World.cell?_of_block (w := wb) (put5_heap wb w.heap.size _ _ _ _ _ x (by have := hx.1; omega)))
    · have hnl := op_lt hm hrk
      have hlop := HI.out.lop.trans (lopR_eq l e n d m HI.out.one hm hrk)
      have hrank : 1 ≤ (opB (sgAt l n)).2 ∧ (opB (sgAt l n)).2 ≤ 5 ∧ 1 ≤ (opB (sgAt l n)).1 ∧ (opB (sgAt l n)).1 ≤ 13 := by
        rcases opB_rank (sgAt l n) with h1 | h1
        · rw [h1] at hrk; simp only at hrk; omega
        · exact h1
      have CBn := CB.out (n + 1) ((opB (sgAt l n)).2 + 1) (by omega) hnl (by omega) (by omega)
      have hwin := binR_within l (n + 1) d ((opB (sgAt l n)).2 + 1) (by omega) hnl
      cases hB : binR l (n + 1) d ((opB (sgAt l n)).2 + 1) with
      | bad j c' =>
        rw [hB] at hlop CBn
        obtain rfl : r = .bad j c' := hlop
        have CBn := Lib.hid CBn
        clear hB hwin
        go_wp2_with fail
        refine (rsign_calls HI.out.rd).mono ?_
        rintro E wa ⟨rfl, hb⟩
        have HIa := Lib.hid (HI.out.bel hb)
        have pHIa := HIa.out.rd.ptr
        clear hb HI
        go_wp2_with fail
        refine (op_calls (sgAt l n) _ HIa.out.rd.g.o).mono ?_
        rintro E wb ⟨rfl, hb⟩
        have HIb := Lib.hid (HIa.out.bel hb)
        have pHIb := HIb.out.rd.ptr
        clear hb HIa
        generalize (opB (sgAt l n)).2 = rk at *
        generalize (opB (sgAt l n)).1 = op at *
        obtain ⟨p0, c0, c1, c2, f1, f2⟩ := HIb.out.rd.cells
        have hle := HIb.out.rd.len
        go_wp2_with fail
        have R1 := Lib.hid (HIb.out.rd.inc1 hnl)
        have pR1 := R1.out.ptr
        have F1 := Lib.hid ((Fr.refl b wb).setA (.int .i64 ((n : Int) + 1)))
        generalize wb.setCell ⟨b.c, 1, none⟩ (.int .i64 ((n : Int) + 1)) = wc at *
        clear p0 c0 c1 c2 f1 f2
        refine (CBn.out _ R1.out).mono ?_
        rintro E wd ⟨rfl, hf⟩
        have HF := Lib.hid ((HIb.out.fr.trans F1.out).trans hf)
        clear hf
        go_wp2_with fail
        exact ⟨rfl, rfl, HF.out⟩
      | ok x n1 =>
        rw [hB] at hlop CBn hwin
        simp only [Res.within] at hwin
        have CBn := Lib.hid CBn
        have hok5 := Lib.hid (okE_op (k := 5) (op := (opB (sgAt l n)).1) (s := []) (args := [e, x]) (by decide) (okI_small (by omega) (by omega)) (by simp))
        by_cases hx : S3.exB ⟨5, (opB (sgAt l n)).1, 0, [], [e, x]⟩ = true
        · have HLop := Lib.hid (show r = lopR l ⟨5, (opB (sgAt l n)).1, 0, [], [e, x]⟩ n1 d m by rw [hlop]; simp only [Res.bind, madeR]; rw [if_pos hx])
          have HM := Lib.hid (atOf_is HI.out.rd)
          clear hB hlop
          go_wp2_with fail
          refine (rsign_calls HI.out.rd).mono ?_
          rintro E wa ⟨rfl, hb⟩
          have HIa := Lib.hid (HI.out.bel hb)
          have pHIa := HIa.out.rd.ptr
          clear hb HI
          go_wp2_with fail
          refine (op_calls (sgAt l n) _ HIa.out.rd.g.o).mono ?_
          rintro E wb ⟨rfl, hb⟩
          have HIb := Lib.hid (HIa.out.bel hb)
          have pHIb := HIb.out.rd.ptr
          clear hb HIa
          generalize (opB (sgAt l n)).2 = rk at *
          generalize (opB (sgAt l n)).1 = op at *
          obtain ⟨p0, c0, c1, c2, f1, f2⟩ := HIb.out.rd.cells
          have hle := HIb.out.rd.len
          go_wp2_with fail
          have R1 := Lib.hid (HIb.out.rd.inc1 hnl)
          have pR1 := R1.out.ptr
          have F1 := Lib.hid ((Fr.refl b wb).setA (.int .i64 ((n : Int) + 1)))
          generalize wb.setCell ⟨b.c, 1, none⟩ (.int .i64 ((n : Int) + 1)) = wc at *
          clear p0 c0 c1 c2 f1 f2
          refine (CBn.out _ R1.out).mono ?_
          rintro E wd ⟨A1, k1, c1, rfl, ho1, hE1, hR1, hf⟩
          obtain ⟨hrow, her, hres, hfr⟩ := HIb.out.mv hbw hz1 (F1.out.trans hf)
          have hqb := row5_lt HIb.out.row
          have hzc := F1.out.size
          have hqd := row5_lt hrow
          have RX := Lib.hid ((hR1.al (S3.eO x (.slice A1 k1 c1))).al (eO2 e (.slice A k c) x (.slice A1 k1 c1)))
          have pRX := RX.out.ptr
          have FX := Lib.hid ((hfr.al (S3.eO x (.slice A1 k1 c1))).al (eO2 e (.slice A k c) x (.slice A1 k1 c1)))
          have EX := er_two' (w := wd.alloc (S3.eO x (.slice A1 k1 c1))) (R := Rx q (w.heap.size + 1) wd.heap.size) (R' := Rx q (w.heap.size + 1) (wd.heap.size + 1 + 1)) HIb.out.ok ho1 (fun y hy => ⟨⟨hy.1, by have := hy.2.1; omega, hy.2.2⟩, by rw [S3.sz1]; have := hy.2.1; omega⟩) ⟨by rw [S3.sz1]; omega, by rw [S3.sz1]; omega, by rw [S3.sz1]; omega⟩ (her.keep (fun _ hy => hy) (fun _ _ hy => (S3.bal wd _).cell hy.2.1)) (hE1.keep (fun y hy => ⟨by have := hy.1; omega, hy.2, by have := hy.1; omega⟩) (fun _ _ hy => (S3.bal wd _).cell hy.2))
          rw [S3.sz1] at EX
          have EX := Lib.hid EX
          have hszX : ((wd.alloc (S3.eO x (.slice A1 k1 c1))).alloc (eO2 e (.slice A k c) x (.slice A1 k1 c1))).heap.size = wd.heap.size + 1 + 1 := by rw [S3.sz1, S3.sz1]
          have QX := Lib.hid ((hres.bel (S3.bal wd (S3.eO x (.slice A1 k1 c1)))).bel (S3.bal _ (eO2 e (.slice A k c) x (.slice A1 k1 c1))))
          have PX := Lib.hid (((show R5 wd q from ⟨_, _, _, _, _, hrow⟩).bel (S3.bal wd (S3.eO x (.slice A1 k1 c1)))).bel (S3.bal _ (eO2 e (.slice A k c) x (.slice A1 k1 c1))))
          obtain ⟨e0, e1, e2, e3, e4⟩ := row5_facts hrow
          clear hrow her hres hfr hE1 hR1 hf
          go_wp2_with fail
          refine (whole_yes RX.out ⟨5, op, 0, [], [e, x]⟩ hok5.out _ 2 2 (EX.out.keep (fun y hy => by have := hy.2.1; rw [hszX]; exact this) fun _ _ _ => rfl) hx).mono ?_
          rintro E wg ⟨rfl, hb⟩
          have hzg := hb.size
          rw [hszX] at hzg
          have PG := PX.out.bel hb
          have EG := EX.out.keep (R' := Rx q (w.heap.size + 1) wg.heap.size) (fun y hy => ⟨hy.1, Nat.lt_of_lt_of_le hy.2.1 hzg, hy.2.2⟩) (fun y j hy => hb.cell (p := ⟨y, j, none⟩) (by rw [hszX]; exact hy.2.1))
          have HN := Lib.hid (CI.next (r := r) (m := m) (e := ⟨5, op, 0, [], [e, x]⟩) hbw hz1 (RX.out.bel hb) (show 1 ≤ n1 by omega) hok5.out PG EG (QX.out.bel hb) (FX.out.trans (.of hb)) HLop.out)
          dsimp only [put5] at HN
          have HA := Lib.hid (atOf_is HN.out.rd)
          have hn1 := HN.out.rd.hi
          obtain ⟨z0, z1, z2, z3, z4, r0, r1, r2, r3, r4, y0, y1, y2, y3, y4⟩ := PG.facts
          clear hb PG EG
          go_wp2_with fail
          go_roundw
          case rel => exact ⟨_, _, _, _, _, HN, by omega⟩
          case measure => rw [HA.out, HM.out]; omega
        · simp only [Bool.not_eq_true] at hx
          obtain rfl : r = .bad (n1 - 1) 8 := by rw [hlop]; simp only [Res.bind, madeR]; rw [if_neg (by rw [hx]; decide)]
          clear hB
          go_wp2_with fail
          refine (rsign_calls HI.out.rd).mono ?_
          rintro E wa ⟨rfl, hb⟩
          have HIa := Lib.hid (HI.out.bel hb)
          have pHIa := HIa.out.rd.ptr
          clear hb HI
          go_wp2_with fail
          refine (op_calls (sgAt l n) _ HIa.out.rd.g.o).mono ?_
          rintro E wb ⟨rfl, hb⟩
          have HIb := Lib.hid (HIa.out.bel hb)
          have pHIb := HIb.out.rd.ptr
          clear hb HIa
          generalize (opB (sgAt l n)).2 = rk at *
          generalize (opB (sgAt l n)).1 = op at *
          obtain ⟨p0, c0, c1, c2, f1, f2⟩ := HIb.out.rd.cells
          have hle := HIb.out.rd.len
          go_wp2_with fail
          have R1 := Lib.hid (HIb.out.rd.inc1 hnl)
          have pR1 := R1.out.ptr
          have F1 := Lib.hid ((Fr.refl b wb).setA (.int .i64 ((n : Int) + 1)))
          generalize wb.setCell ⟨b.c, 1, none⟩ (.int .i64 ((n : Int) + 1)) = wc at *
          clear p0 c0 c1 c2 f1 f2
          refine (CBn.out _ R1.out).mono ?_
          rintro E wd ⟨A1, k1, c1, rfl, ho1, hE1, hR1, hf⟩
          obtain ⟨hrow, her, hres, hfr⟩ := HIb.out.mv hbw hz1 (F1.out.trans hf)
          have hqb := row5_lt HIb.out.row
          have hzc := F1.out.size
          have hqd := row5_lt hrow
          have RX := Lib.hid ((hR1.al (S3.eO x (.slice A1 k1 c1))).al (eO2 e (.slice A k c) x (.slice A1 k1 c1)))
          have pRX := RX.out.ptr
          have FX := Lib.hid ((hfr.al (S3.eO x (.slice A1 k1 c1))).al (eO2 e (.slice A k c) x (.slice A1 k1 c1)))
          have EX := er_two' (w := wd.alloc (S3.eO x (.slice A1 k1 c1))) (R := Rx q (w.heap.size + 1) wd.heap.size) (R' := Rx q (w.heap.size + 1) (wd.heap.size + 1 + 1)) HIb.out.ok ho1 (fun y hy => ⟨⟨hy.1, by have := hy.2.1; omega, hy.2.2⟩, by rw [S3.sz1]; have := hy.2.1; omega⟩) ⟨by rw [S3.sz1]; omega, by rw [S3.sz1]; omega, by rw [S3.sz1]; omega⟩ (her.keep (fun _ hy => hy) (fun _ _ hy => (S3.bal wd _).cell hy.2.1)) (hE1.keep (fun y hy => ⟨by have := hy.1; omega, hy.2, by have := hy.1; omega⟩) (fun _ _ hy => (S3.bal wd _).cell hy.2))
          rw [S3.sz1] at EX
          have EX := Lib.hid EX
          have hszX : ((wd.alloc (S3.eO x (.slice A1 k1 c1))).alloc (eO2 e (.slice A k c) x (.slice A1 k1 c1))).heap.size = wd.heap.size + 1 + 1 := by rw [S3.sz1, S3.sz1]
          have QX := Lib.hid ((hres.bel (S3.bal wd (S3.eO x (.slice A1 k1 c1)))).bel (S3.bal _ (eO2 e (.slice A k c) x (.slice A1 k1 c1))))
          have PX := Lib.hid (((show R5 wd q from ⟨_, _, _, _, _, hrow⟩).bel (S3.bal wd (S3.eO x (.slice A1 k1 c1)))).bel (S3.bal _ (eO2 e (.slice A k c) x (.slice A1 k1 c1))))
          obtain ⟨e0, e1, e2, e3, e4⟩ := row5_facts hrow
          clear hrow her hres hfr hE1 hR1 hf
          go_wp2_with fail
          refine (whole_no RX.out (by omega) ⟨5, op, 0, [], [e, x]⟩ hok5.out _ 2 2 (EX.out.keep (fun y hy => by have := hy.2.1; rw [hszX]; exact this) fun _ _ _ => rfl) hx).mono ?_
          rintro E wg ⟨rfl, hb⟩
          have HB := Lib.hid (FX.out.trans (Fr.of (b := b) hb))
          clear hb
          go_wp2_with fail
          exact ⟨rfl, rfl, HB.out⟩
end Go.Proofs.YtipepljmfgjbpaaGreatDoor.E5

namespace Go.Proofs.YtipepljmfgjbpaaGreatDoor.E5
open Go Go.RowKit Go.Proofs.YtipepljmfgjbpaaGreatDoor

abbrev OPD (l : TL) (v : Value) (b : RB) (i d : Nat) : Prop := ∀ W, Rd W l v b i d → Calls Tryz.prog 83 #[rp b] W (Post W l v b d (opdR l i d))
abbrev BIN (l : TL) (v : Value) (b : RB) (i d : Nat) (m : Int) : Prop := ∀ W, Rd W l v b i d → Calls Tryz.prog 80 #[rp b, .int .i64 m] W (Post W l v b d (binR l i d m))
theorem expr_bin {l : TL} {v : Value} {b : RB} {i d : Nat} (h : BIN l v b i d 1) : ∀ W, Rd W l v b i d → Calls Tryz.prog 74 #[rp b] W (Post W l v b d (binR l i d 1)) :=
  fun _ hW => rexpr_of hW _ h
/-- What inner gives. -/
def innR (l : TL) (i d : Nat) (s : Bytes) : Res := if 40 ≤ d then .bad i 8 else (binR l (i + 1) (d + 1) 1).bind fun e n => if sgAt l n = s then .ok e (n + 1) else .bad n 7
theorem rinner_calls {l : TL} {v : Value} {b : RB} {i d : Nat} (hi : i < l.length) {s : Bytes} (hs : s ≠ []) (h : BIN l v b (i + 1) (d + 1) 1) :
    ∀ W, Rd W l v b i d → Calls Tryz.prog 93 #[rp b, .string (B s)] W (Post W l v b d (innR l i d s)) := by
  intro W hW
  have C := expr_bin h
  unfold innR
  by_cases hd : 40 ≤ d
  · rw [if_pos hd]; exact rinner_deep hW hd s
  rw [if_neg hd]
  cases hB : binR l (i + 1) (d + 1) 1 with
  | bad j c => rw [hB] at C; exact rinner_bad hW (by omega) hi s j c C
  | ok e n =>
    rw [hB] at C
    simp only [Res.bind]
    by_cases hc : sgAt l n = s
    · rw [if_pos hc]; exact rinner_yes hW (by omega) hi s hs e n hc C
    · rw [if_neg hc]; exact rinner_no hW (by omega) hi s e n hc C
theorem runary_calls {l : TL} {v : Value} {b : RB} {i d : Nat} (hi : i < l.length) {op : Int} (hop : op = 14 ∨ op = 15) (C : OPD l v b (i + 1) (d + 1)) :
    ∀ W, Rd W l v b i d → Calls Tryz.prog 95 #[rp b, .int .i64 op] W (Post W l v b d (if 40 ≤ d then .bad i 8 else (opdR l (i + 1) (d + 1)).bind fun e n => madeR ⟨4, op, 0, [], [e]⟩ n)) := by
  intro W hW
  have C : ∀ W, Rd W l v b (i + 1) (d + 1) → Calls Tryz.prog 83 #[rp b] W (Post W l v b (d + 1) (opdR l (i + 1) (d + 1))) := C
  have hok : S3.okI op := okI_small (by omega) (by omega)
  by_cases hd : 40 ≤ d
  · rw [if_pos hd]; exact runary_deep hW hd op
  rw [if_neg hd]
  cases hB : opdR l (i + 1) (d + 1) with
  | bad j c => rw [hB] at C; exact runary_bad hW (by omega) hi op j c C
  | ok e n =>
    have hwin := opdR_within l (i + 1) (d + 1) hi
    rw [hB] at C hwin
    simp only [Res.within] at hwin
    simp only [Res.bind, madeR]
    by_cases hx : S3.exB ⟨4, op, 0, [], [e]⟩ = true
    · rw [if_pos hx]; exact runary_yes hW (by omega) hi op hok e n hx C
    · rw [if_neg hx]; exact runary_no hW (by omega) hi op hok e n (by omega) (by simpa using hx) C
theorem rsigned_calls {l : TL} {v : Value} {b : RB} {i d : Nat} (hB : i < l.length → BIN l v b (i + 1) (d + 1) 1) (hO : i < l.length → OPD l v b (i + 1) (d + 1)) :
    ∀ W, Rd W l v b i d → Calls Tryz.prog 89 #[rp b] W (Post W l v b d (
      if sgAt l i = [45] then if 40 ≤ d then .bad i 8 else (opdR l (i + 1) (d + 1)).bind fun e n => madeR ⟨4, 14, 0, [], [e]⟩ n
      else if sgAt l i = [33] then if 40 ≤ d then .bad i 8 else (opdR l (i + 1) (d + 1)).bind fun e n => madeR ⟨4, 15, 0, [], [e]⟩ n
      else if sgAt l i = [40] then innR l i d [41]
      else .bad i 7)) := by
  intro W hW
  by_cases h1 : sgAt l i = [45]
  · rw [if_pos h1]
    have hi := sgAt_lt h1 (by simp)
    exact rsigned_minus hW h1 _ (runary_calls hi (.inl rfl) (hO hi))
  rw [if_neg h1]
  by_cases h2 : sgAt l i = [33]
  · rw [if_pos h2]
    have hi := sgAt_lt h2 (by simp)
    exact rsigned_not hW h2 _ (runary_calls hi (.inr rfl) (hO hi))
  rw [if_neg h2]
  by_cases h3 : sgAt l i = [40]
  · rw [if_pos h3]
    have hi := sgAt_lt h3 (by simp)
    exact rsigned_par hW h3 _ (rinner_calls hi (by simp) (hB hi))
  rw [if_neg h3]
  exact rsigned_no hW h1 h2 h3
theorem rvariable_calls {l : TL} {v : Value} {b : RB} {i d : Nat} (hk : (tkAt l i).1 = 1) (hB : i + 1 < l.length → BIN l v b (i + 2) (d + 1) 1) :
    ∀ W, Rd W l v b i d → Calls Tryz.prog 87 #[rp b] W (Post W l v b d (
      if S3.nameB (tkAt l i).2 then
        if sgAt l (i + 1) = [91] then
          if 40 ≤ d then .bad (i + 1) 8 else (binR l (i + 2) (d + 1) 1).bind fun e n => if sgAt l n = [93] then madeR ⟨6, 0, 0, (tkAt l i).2, [e]⟩ (n + 1) else .bad n 7
        else .ok ⟨3, 0, 0, (tkAt l i).2, []⟩ (i + 1)
      else .bad i 7)) := by
  intro W hW
  by_cases hn : S3.nameB (tkAt l i).2 = true
  · rw [if_pos hn]
    have hnm : nmTok (tkAt l i) = true := by simp [nmTok, hk, hn]
    by_cases hs : sgAt l (i + 1) = [91]
    · rw [if_pos hs]
      have hi := sgAt_lt hs (by simp)
      have C := rinner_calls (s := [93]) hi (by simp) (hB hi)
      unfold innR at C
      by_cases hd : 40 ≤ d
      · rw [if_pos hd]
        have C : ∀ W, Rd W l v b (i + 1) d → Calls Tryz.prog 93 #[rp b, .string (B [93])] W (Post W l v b d (.bad (i + 1) 8)) := fun W hW => by have := C W hW; rwa [if_pos hd] at this
        exact rvar_ibad hW hnm hs _ _ C
      rw [if_neg hd]
      have C : ∀ W, Rd W l v b (i + 1) d → Calls Tryz.prog 93 #[rp b, .string (B [93])] W (Post W l v b d ((binR l (i + 2) (d + 1) 1).bind fun e n => if sgAt l n = [93] then .ok e (n + 1) else .bad n 7)) := fun W hW => by have := C W hW; rwa [if_neg hd] at this
      cases hE : binR l (i + 2) (d + 1) 1 with
      | bad j c => rw [hE] at C; exact rvar_ibad hW hnm hs _ _ C
      | ok e n =>
        rw [hE] at C
        simp only [Res.bind] at C ⊢
        by_cases hc : sgAt l n = [93]
        · rw [if_pos hc]
          have C : ∀ W, Rd W l v b (i + 1) d → Calls Tryz.prog 93 #[rp b, .string (B [93])] W (Post W l v b d (.ok e (n + 1))) := fun W hW => by have := C W hW; rwa [if_pos hc] at this
          unfold madeR
          by_cases hx : S3.exB ⟨6, 0, 0, (tkAt l i).2, [e]⟩ = true
          · rw [if_pos hx]; exact rvar_iyes hW hnm hs e (n + 1) hx C
          · rw [if_neg hx]; exact rvar_ino hW hnm hs e (n + 1) (by omega) (by simpa using hx) C
        · rw [if_neg hc]
          have C : ∀ W, Rd W l v b (i + 1) d → Calls Tryz.prog 93 #[rp b, .string (B [93])] W (Post W l v b d (.bad n 7)) := fun W hW => by have := C W hW; rwa [if_neg hc] at this
          exact rvar_ibad hW hnm hs _ _ C
    · rw [if_neg hs]; exact rvar_plain hW hnm hs
  · rw [if_neg hn]; exact rvar_bad hW (by simp [nmTok, hn])
theorem parts (l : TL) (v : Value) (b : RB) (n : Nat) : (∀ i d, i ≤ l.length → l.length - i ≤ n → OPD l v b i d) ∧ (∀ i d m, i ≤ l.length → l.length - i ≤ n → 1 ≤ m → m ≤ 6 → BIN l v b i d m) := by
  induction n using Nat.strongRecOn with
  | _ n ih =>
    have hO : ∀ i d, i ≤ l.length → l.length - i ≤ n → OPD l v b i d := by
      intro i d hi hn W hW
      rw [opdR_eq l i d hi]
      by_cases h2 : (tkAt l i).1 = 2
      · rw [if_pos h2]
        have hlt := kind_lt (l := l) (i := i) (by omega)
        exact roperand_num hW h2 _ fun W hW => rnumber_calls hW hlt
      rw [if_neg h2]
      by_cases h1 : (tkAt l i).1 = 1
      · rw [if_pos h1]
        have hlt := kind_lt (l := l) (i := i) (by omega)
        exact roperand_name hW h1 _ (rvariable_calls h1 fun hl => (ih (l.length - (i + 2)) (by omega)).2 (i + 2) (d + 1) 1 (by omega) (by omega) (by omega) (by omega))
      rw [if_neg h1]
      by_cases h3 : (tkAt l i).1 = 3
      · rw [if_pos h3]; exact roperand_key hW h3 _ fun W hW => rkeyword_calls hW h3
      rw [if_neg h3]
      have := roperand_sign hW h1 h2 h3 _ (rsigned_calls (fun hl => (ih (l.length - (i + 1)) (by omega)).2 (i + 1) (d + 1) 1 (by omega) (by omega) (by omega) (by omega)) fun hl => (ih (l.length - (i + 1)) (by omega)).1 (i + 1) (d + 1) (by omega) (by omega))
      exact this
    refine ⟨hO, fun i d m hi hn hm hm6 W hW => ?_⟩
    have CO := hO i d hi hn
    cases hr : opdR l i d with
    | bad j c =>
      have CO : ∀ W, Rd W l v b i d → Calls Tryz.prog 83 #[rp b] W (Post W l v b d (.bad j c)) := fun W hW => by have := CO W hW; rwa [hr] at this
      rw [binR_eq l i d m hm hi, hr]
      exact rclimb_bad hW m j c CO
    | ok e n0 =>
      have CO : ∀ W, Rd W l v b i d → Calls Tryz.prog 83 #[rp b] W (Post W l v b d (.ok e n0)) := fun W hW => by have := CO W hW; rwa [hr] at this
      have hwin := opdR_within l i d hi
      rw [hr] at hwin
      simp only [Res.within] at hwin
      rw [binR_eq l i d m hm hi, hr]
      exact rclimb_ok hW m hm e n0 hwin.1 _ rfl CO fun j m' hj hjl hm1 hm2 => (ih (l.length - j) (by omega)).2 j d m' hjl (Nat.le_refl _) hm1 hm2
/-- expression, from wherever the reader stands. -/
theorem rexpression_calls {w : World} {l : TL} {v : Value} {b : RB} {i d : Nat} (h : Rd w l v b i d) :
    Calls Tryz.prog 74 #[rp b] w (Post w l v b d (binR l i d 1)) :=
  expr_bin ((parts l v b (l.length - i)).2 i d 1 h.hi (Nat.le_refl _) (by omega) (by omega)) w h
end Go.Proofs.YtipepljmfgjbpaaGreatDoor.E5
