/-
  The reader's parts that go on with others: inner, unary, variable, signed, operand, climb: contracts out of those of the others.
-/
import Derived.Test.YtkpbplmmphpokaaGreatDoorERd2
namespace Go.Proofs.YtkpbplmmphpokaaGreatDoor.E5
open Go Go.RowKit Go.Proofs.YtkpbplmmphpokaaGreatDoor

theorem er_one {w : World} {n : Nat} {e : Ex} {A : Option Addr} {k c : Nat} (ho : S3.OkE e) (hn : n ≤ w.heap.size) (h : S3.ER w (Rn n w.heap.size) e.args (.slice A k c)) :
    S3.ER (w.alloc (S3.eO e (.slice A k c))) (Rn n (w.alloc (S3.eO e (.slice A k c))).heap.size) [e] (.slice (some ⟨w.heap.size, 0, none⟩) 1 1) := by
  have hb := S3.EBox.new w e (.slice A k c)
  refine .mk [e] (some ⟨w.heap.size, 0, none⟩) 1 (fun _ => .slice A k c) (by simp) (fun i x hx => ?_) (fun i x hx => ?_)
  · match i, hx with
    | 0, hx => cases hx; exact ⟨_, 0, rfl, ⟨hn, by simp⟩, ho, ⟨hb.c0, hb.c1, hb.c2, hb.c3, hb.c4⟩⟩
    | i + 1, hx => simp at hx
  · match i, hx with
    | 0, hx => cases hx; exact er_bel h (S3.bal w _)
    | i + 1, hx => simp at hx
abbrev eO2 (a : Ex) (va : Value) (b : Ex) (vb : Value) : Obj := .cells #[.int .i64 a.kind, .int .i64 a.op, .int .i64 a.num, .string (B a.name), va, .int .i64 b.kind, .int .i64 b.op, .int .i64 b.num, .string (B b.name), vb] 29
theorem er_two {w : World} {n : Nat} {a b : Ex} {va vb : Value} (ha : S3.OkE a) (hb : S3.OkE b) (hn : n ≤ w.heap.size) (h1 : S3.ER w (Rn n w.heap.size) a.args va) (h2 : S3.ER w (Rn n w.heap.size) b.args vb) :
    S3.ER (w.alloc (eO2 a va b vb)) (Rn n (w.alloc (eO2 a va b vb)).heap.size) [a, b] (.slice (some ⟨w.heap.size, 0, none⟩) 2 2) := by
  have k := fun (i : Nat) (u : Value) (h : (#[.int .i64 a.kind, .int .i64 a.op, .int .i64 a.num, .string (B a.name), va, .int .i64 b.kind, .int .i64 b.op, .int .i64 b.num, .string (B b.name), vb] : Array Value)[i]? = some u) => S3.newCell w _ 29 i u h
  refine .mk [a, b] (some ⟨w.heap.size, 0, none⟩) 2 (fun i => if i = 0 then va else vb) (by simp) (fun i e he => ?_) (fun i e he => ?_)
  · match i, he with
    | 0, he => cases he; exact ⟨_, 0, rfl, ⟨hn, by simp⟩, ha, ⟨k 0 _ rfl, k 1 _ rfl, k 2 _ rfl, k 3 _ rfl, k 4 _ rfl⟩⟩
    | 1, he => cases he; exact ⟨_, 0, rfl, ⟨hn, by simp⟩, hb, ⟨k 5 _ rfl, k 6 _ rfl, k 7 _ rfl, k 8 _ rfl, k 9 _ rfl⟩⟩
    | i + 2, he => simp at he
  · match i, he with
    | 0, he => cases he; exact er_bel h1 (S3.bal w _)
    | 1, he => cases he; exact er_bel h2 (S3.bal w _)
    | i + 2, he => simp at he
theorem Rd.dec2 {w : World} {l : TL} {v : Value} {b : RB} {i d : Nat} (h : Rd w l v b i (d + 1)) : Rd (w.setCell ⟨b.r, 1, none⟩ (.int .i64 (d : Int))) l v b i d := h.set2 d (by have := h.hd; omega)

set_option maxRecDepth 100000 in
set_option maxHeartbeats 1000000 in
theorem rexpr_of {w : World} {l : TL} {v : Value} {b : RB} {i d : Nat} (h : Rd w l v b i d) (r : Res)
    (C : ∀ W, Rd W l v b i d → Calls Tryz.prog 103 #[rp b, .int .i64 1] W (Post W l v b d r)) :
    Calls Tryz.prog 64 #[rp b] w (Post w l v b d r) := by
  have H := Lib.hid (fun o => h.al o)
  have pH := h.ptr
  have Q := Lib.hid (fun a0 a1 a2 a3 a4 => R5.new w a0 a1 a2 a3 a4)
  have hbw := h.lt
  have C := Lib.hid C
  clear h
  go_enter Tryz.func64, Tryz.ntmps64
  go_wp2_with fail
  refine (C.out _ (H.out _)).mono ?_
  intro E w4 hP
  cases r with
  | bad j c =>
    obtain ⟨rfl, hf⟩ := hP
    have HF := Lib.hid hf
    clear hf
    go_wp2_with fail
    exact ⟨rfl, rfl, (Fr.of (S3.bal w _)).trans HF.out⟩
  | ok e n =>
    obtain ⟨A, k, c, rfl, ho, hE, hr, hf⟩ := hP
    obtain ⟨z0, z1, z2, z3, z4, r0, r1, r2, r3, r4, y0, y1, y2, y3, y4⟩ := ((Q.out _ _ _ _ _).fr (by omega) hf).facts
    have HR := Lib.hid hr
    have pHR := HR.out.ptr
    have HF := Lib.hid hf
    have HE := Lib.hid hE
    have HO := Lib.hid ho
    clear hr hf hE ho
    go_wp2_with fail
    exact bodyPost_ret (v := S3.eV e (.slice A k c)) (by simp [results, Tryz.results64, go_sem, r0, r1, r2, r3, r4]) rfl (post_end (Nat.le_refl _) (by simp) hbw (Fr.of (S3.bal w _)) HO.out HE.out HR.out HF.out _ _ _ _ _)

set_option maxRecDepth 100000 in
set_option maxHeartbeats 1000000 in
theorem rinner_deep {w : World} {l : TL} {v : Value} {b : RB} {i d : Nat} (h : Rd w l v b i d) (hd : 40 ≤ d) (s : Bytes) :
    Calls Tryz.prog 218 #[rp b, .string (B s)] w (Post w l v b d (.bad i 8)) := by
  have H := Lib.hid (fun o => h.al o)
  have pH := h.ptr
  clear h
  go_enter Tryz.func218, Tryz.ntmps218
  go_wp2_with fail
  refine (open_no (H.out _) hd).mono ?_
  rintro E w4 ⟨rfl, hb⟩
  have HB := Lib.hid (after (S3.bal w _) hb)
  clear hb
  go_wp2_with fail
  exact ⟨rfl, rfl, Fr.of HB.out⟩
set_option maxRecDepth 100000 in
set_option maxHeartbeats 1000000 in
theorem rinner_bad {w : World} {l : TL} {v : Value} {b : RB} {i d : Nat} (h : Rd w l v b i d) (hd : d < 40) (hi : i < l.length) (s : Bytes) (j : Nat) (c : Int)
    (C : ∀ W, Rd W l v b (i + 1) (d + 1) → Calls Tryz.prog 64 #[rp b] W (Post W l v b (d + 1) (.bad j c))) :
    Calls Tryz.prog 218 #[rp b, .string (B s)] w (Post w l v b d (.bad j c)) := by
  have H := Lib.hid (fun o => h.al o)
  have pH := h.ptr
  have Q := Lib.hid (fun a0 a1 a2 a3 a4 => R5.new w a0 a1 a2 a3 a4)
  have hbw := h.lt
  have C := Lib.hid C
  clear h
  go_enter Tryz.func218, Tryz.ntmps218
  go_wp2_with fail
  refine (open_yes (H.out _) hd hi).mono ?_
  rintro E w1 ⟨rfl, hr1, hf1⟩
  have H1 := Lib.hid hr1
  have pH1 := H1.out.ptr
  have F1 := Lib.hid ((Fr.of (S3.bal w _)).trans hf1)
  have Q1 := Lib.hid ((Q.out _ _ _ _ _).fr (by omega) hf1)
  have hq1 := Q1.out.lt
  clear hr1 hf1
  go_wp2_with fail
  refine (C.out _ H1.out).mono ?_
  rintro E w2 ⟨rfl, hf⟩
  have HF := Lib.hid hf
  clear hf
  go_wp2_with fail
  exact ⟨rfl, rfl, F1.out.trans HF.out⟩
set_option maxRecDepth 100000 in
set_option maxHeartbeats 1000000 in
theorem rinner_no {w : World} {l : TL} {v : Value} {b : RB} {i d : Nat} (h : Rd w l v b i d) (hd : d < 40) (hi : i < l.length) (s : Bytes) (e : Ex) (n : Nat) (hsg : sgAt l n ≠ s)
    (C : ∀ W, Rd W l v b (i + 1) (d + 1) → Calls Tryz.prog 64 #[rp b] W (Post W l v b (d + 1) (.ok e n))) :
    Calls Tryz.prog 218 #[rp b, .string (B s)] w (Post w l v b d (.bad n 7)) := by
  have H := Lib.hid (fun o => h.al o)
  have pH := h.ptr
  have Q := Lib.hid (fun a0 a1 a2 a3 a4 => R5.new w a0 a1 a2 a3 a4)
  have hbw := h.lt
  have C := Lib.hid C
  clear h
  have HS := Lib.hid hsg
  clear hsg
  go_enter Tryz.func218, Tryz.ntmps218
  go_wp2_with fail
  refine (open_yes (H.out _) hd hi).mono ?_
  rintro E w1 ⟨rfl, hr1, hf1⟩
  have H1 := Lib.hid hr1
  have pH1 := H1.out.ptr
  have F1 := Lib.hid ((Fr.of (S3.bal w _)).trans hf1)
  have Q1 := Lib.hid ((Q.out _ _ _ _ _).fr (by omega) hf1)
  have hq1 := Q1.out.lt
  clear hr1 hf1
  go_wp2_with fail
  refine (C.out _ H1.out).mono ?_
  rintro E w2 ⟨A, k, c, rfl, ho, hE, hr, hf⟩
  have Q2 := Lib.hid (Q1.out.fr (by omega) hf)
  have HR := Lib.hid (hr.al (S3.eO e (.slice A k c)))
  have pHR := HR.out.ptr
  have HF := Lib.hid hf
  have HE := Lib.hid hE
  have HO := Lib.hid ho
  have E2 := Lib.hid (S3.EBox.new w2 e (.slice A k c))
  have hb2 := hr.lt
  have hz2 := hf.size
  clear hr hf hE ho C H1
  go_wp2_with fail
  refine (pass_no HR.out HS.out).mono ?_
  rintro E w3 ⟨rfl, hf⟩
  have F3 := Lib.hid ((Fr.of (S3.bal w2 (S3.eO e (.slice A k c)))).trans hf)
  clear hf
  go_wp2_with fail
  exact ⟨rfl, rfl, (F1.out.trans HF.out).trans F3.out⟩
set_option maxRecDepth 100000 in
set_option maxHeartbeats 1000000 in
theorem rinner_yes {w : World} {l : TL} {v : Value} {b : RB} {i d : Nat} (h : Rd w l v b i d) (hd : d < 40) (hi : i < l.length) (s : Bytes) (hs : s ≠ []) (e : Ex) (n : Nat) (hsg : sgAt l n = s)
    (C : ∀ W, Rd W l v b (i + 1) (d + 1) → Calls Tryz.prog 64 #[rp b] W (Post W l v b (d + 1) (.ok e n))) :
    Calls Tryz.prog 218 #[rp b, .string (B s)] w (Post w l v b d (.ok e (n + 1))) := by
  have H := Lib.hid (fun o => h.al o)
  have pH := h.ptr
  have Q := Lib.hid (fun a0 a1 a2 a3 a4 => R5.new w a0 a1 a2 a3 a4)
  have hbw := h.lt
  have C := Lib.hid C
  clear h
  have HS := Lib.hid hsg
  clear hsg
  go_enter Tryz.func218, Tryz.ntmps218
  go_wp2_with fail
  refine (open_yes (H.out _) hd hi).mono ?_
  rintro E w1 ⟨rfl, hr1, hf1⟩
  have H1 := Lib.hid hr1
  have pH1 := H1.out.ptr
  have F1 := Lib.hid ((Fr.of (S3.bal w _)).trans hf1)
  have Q1 := Lib.hid ((Q.out _ _ _ _ _).fr (by omega) hf1)
  have hq1 := Q1.out.lt
  clear hr1 hf1
  go_wp2_with fail
  refine (C.out _ H1.out).mono ?_
  rintro E w2 ⟨A, k, c, rfl, ho, hE, hr, hf⟩
  have Q2 := Lib.hid (Q1.out.fr (by omega) hf)
  have HR := Lib.hid (hr.al (S3.eO e (.slice A k c)))
  have pHR := HR.out.ptr
  have HF := Lib.hid hf
  have HE := Lib.hid hE
  have HO := Lib.hid ho
  have E2 := Lib.hid (S3.EBox.new w2 e (.slice A k c))
  have hb2 := hr.lt
  have hz2 := hf.size
  clear hr hf hE ho C H1
  go_wp2_with fail
  refine (pass_yes HR.out HS.out hs).mono ?_
  rintro E w3 ⟨rfl, hr, hf⟩
  have H3 := Lib.hid hr
  have pH3 := H3.out.ptr
  have F3 := Lib.hid ((Fr.of (S3.bal w2 (S3.eO e (.slice A k c)))).trans hf)
  have Q3 := Lib.hid (Q2.out.fr (by omega) F3.out)
  obtain ⟨e0, e1, e2, e3, e4⟩ := E2.out
  have e0 := (hf.cell (k := w2.heap.size) (i := 0) (by simp) (by omega)).trans e0
  have e1 := (hf.cell (k := w2.heap.size) (i := 1) (by simp) (by omega)).trans e1
  have e2 := (hf.cell (k := w2.heap.size) (i := 2) (by simp) (by omega)).trans e2
  have e3 := (hf.cell (k := w2.heap.size) (i := 3) (by simp) (by omega)).trans e3
  have e4 := (hf.cell (k := w2.heap.size) (i := 4) (by simp) (by omega)).trans e4
  obtain ⟨z0, z1, z2, z3, z4, r0, r1, r2, r3, r4, y0, y1, y2, y3, y4⟩ := Q3.out.facts
  obtain ⟨p0, c0, c1, c2, f1, f2⟩ := H3.out.cells
  have hd3 := H3.out.hd
  clear hr hf HR Q2 E2
  go_wp2_with fail
  have FX := Lib.hid (F3.out.setN (.int .i64 (d : Int)))
  exact bodyPost_ret (v := S3.eV e (.slice A k c)) (by simp [results, Tryz.results218, go_sem, r0, r1, r2, r3, r4]) rfl (post_end (wc := w1) (Nat.le_refl _) hq1 hbw F1.out HO.out (er_fr HE.out (by omega) FX.out) H3.out.dec2 (HF.out.trans FX.out) _ _ _ _ _)
theorem okE_op {k op : Int} {s : Bytes} {args : List Ex} (hk : 0 ≤ k ∧ k ≤ 7) (hop : S3.okI op) (hs : s.length ≤ 9223372036854775807) : S3.OkE ⟨k, op, 0, s, args⟩ := ⟨okI_small hk.1 (Int.le_trans hk.2 (by decide)), hop, okI_small (Int.le_refl 0) (show (0 : Int) ≤ 100 by decide), hs⟩
theorem runary_deep {w : World} {l : TL} {v : Value} {b : RB} {i d : Nat} (h : Rd w l v b i d) (hd : 40 ≤ d) (op : Int) :
    Calls Tryz.prog 220 #[rp b, .int .i64 op] w (Post w l v b d (.bad i 8)) := by
  have H := Lib.hid (fun o => h.al o)
  have pH := h.ptr
  clear h
  go_enter Tryz.func220, Tryz.ntmps220
  go_wp2_with fail
  refine (open_no (H.out _) hd).mono ?_
  rintro E w4 ⟨rfl, hb⟩
  have HB := Lib.hid (after (S3.bal w _) hb)
  clear hb
  go_wp2_with fail
  exact ⟨rfl, rfl, Fr.of HB.out⟩
set_option maxRecDepth 100000 in
set_option maxHeartbeats 1000000 in
theorem runary_bad {w : World} {l : TL} {v : Value} {b : RB} {i d : Nat} (h : Rd w l v b i d) (hd : d < 40) (hi : i < l.length) (op : Int) (j : Nat) (c : Int)
    (C : ∀ W, Rd W l v b (i + 1) (d + 1) → Calls Tryz.prog 149 #[rp b] W (Post W l v b (d + 1) (.bad j c))) :
    Calls Tryz.prog 220 #[rp b, .int .i64 op] w (Post w l v b d (.bad j c)) := by
  have H := Lib.hid (fun o => h.al o)
  have pH := h.ptr
  have Q := Lib.hid (fun a0 a1 a2 a3 a4 => R5.new w a0 a1 a2 a3 a4)
  have hbw := h.lt
  have C := Lib.hid C
  clear h
  go_enter Tryz.func220, Tryz.ntmps220
  go_wp2_with fail
  refine (open_yes (H.out _) hd hi).mono ?_
  rintro E w1 ⟨rfl, hr1, hf1⟩
  have H1 := Lib.hid hr1
  have pH1 := H1.out.ptr
  have F1 := Lib.hid ((Fr.of (S3.bal w _)).trans hf1)
  have Q1 := Lib.hid ((Q.out _ _ _ _ _).fr (by omega) hf1)
  have hq1 := Q1.out.lt
  clear hr1 hf1
  go_wp2_with fail
  refine (C.out _ H1.out).mono ?_
  rintro E w2 ⟨rfl, hf⟩
  have HF := Lib.hid hf
  clear hf
  go_wp2_with fail
  exact ⟨rfl, rfl, F1.out.trans HF.out⟩
set_option maxRecDepth 100000 in
set_option maxHeartbeats 1000000 in
theorem runary_yes {w : World} {l : TL} {v : Value} {b : RB} {i d : Nat} (h : Rd w l v b i d) (hd : d < 40) (hi : i < l.length) (op : Int) (hop : S3.okI op) (e : Ex) (n : Nat) (hx : S3.exB ⟨4, op, 0, [], [e]⟩ = true)
    (C : ∀ W, Rd W l v b (i + 1) (d + 1) → Calls Tryz.prog 149 #[rp b] W (Post W l v b (d + 1) (.ok e n))) :
    Calls Tryz.prog 220 #[rp b, .int .i64 op] w (Post w l v b d (.ok ⟨4, op, 0, [], [e]⟩ n)) := by
  have H := Lib.hid (fun o => h.al o)
  have pH := h.ptr
  have Q := Lib.hid (fun a0 a1 a2 a3 a4 => R5.new w a0 a1 a2 a3 a4)
  have hbw := h.lt
  have C := Lib.hid C
  clear h
  go_enter Tryz.func220, Tryz.ntmps220
  go_wp2_with fail
  refine (open_yes (H.out _) hd hi).mono ?_
  rintro E w1 ⟨rfl, hr1, hf1⟩
  have H1 := Lib.hid hr1
  have pH1 := H1.out.ptr
  have F1 := Lib.hid ((Fr.of (S3.bal w _)).trans hf1)
  have Q1 := Lib.hid ((Q.out _ _ _ _ _).fr (by omega) hf1)
  have hq1 := Q1.out.lt
  clear hr1 hf1
  go_wp2_with fail
  refine (C.out _ H1.out).mono ?_
  rintro E w2 ⟨A, k, c, rfl, ho, hE, hr, hf⟩
  have Q2 := Lib.hid (Q1.out.fr (by omega) hf)
  have HR := Lib.hid hr
  have pHR := HR.out.ptr
  have HF := Lib.hid hf
  have HE := Lib.hid hE
  have HO := Lib.hid ho
  have E2 := Lib.hid (S3.EBox.new w2 e (.slice A k c))
  have hb2 := hr.lt
  have hz2 := hf.size
  obtain ⟨p0, c0, c1, c2, f1, f2⟩ := hr.cells
  have hd2 := hr.hd
  clear hr hf hE ho C H1
  go_wp2_with fail
  have HX := Lib.hid ((HR.out.dec2.al (S3.eO e (.slice A k c))).al (S3.eO e (.slice A k c)))
  have pHX := HX.out.ptr
  have FX := Lib.hid ((((Fr.refl b w2).setN (.int .i64 (d : Int))).al (S3.eO e (.slice A k c))).al (S3.eO e (.slice A k c)))
  have FY := Lib.hid (((Fr.refl b w2).setN (.int .i64 (d : Int))).al (S3.eO e (.slice A k c)))
  have EX := er_one HO.out (n := w1.heap.size) (by have := FY.out.size; omega) (er_fr HE.out (by omega) FY.out)
  have hsz : (((w2.setCell ⟨b.r, 1, none⟩ (.int .i64 (d : Int))).alloc (S3.eO e (.slice A k c)))).heap.size = w2.heap.size + 1 := by simp [World.setCell]
  rw [hsz] at EX
  have EX := Lib.hid EX
  have QX := Lib.hid (Q2.out.fr (by omega) FX.out)
  have ho4 := Lib.hid (okE_op (k := 4) (s := []) (args := [e]) (by decide) hop (by simp))
  generalize ((w2.setCell ⟨b.r, 1, none⟩ (.int .i64 (d : Int))).alloc (S3.eO e (.slice A k c))).alloc (S3.eO e (.slice A k c)) = w3 at *
  clear Q2 HR HE E2 p0 c0 c1 c2 f1 f2 FY hsz
  refine (whole_yes HX.out ⟨4, op, 0, [], [e]⟩ ho4.out _ 1 1 (er_in EX.out (Nat.le_refl _)) hx).mono ?_
  rintro E w4 ⟨rfl, hb⟩
  have HB := Lib.hid hb
  obtain ⟨z0, z1, z2, z3, z4, r0, r1, r2, r3, r4, y0, y1, y2, y3, y4⟩ := (QX.out.bel hb).facts
  clear hb
  go_wp2_with fail
  exact bodyPost_ret (v := S3.eV ⟨4, op, 0, [], [e]⟩ (.slice (some ⟨w2.heap.size + 1, 0, none⟩) 1 1)) (by simp [results, Tryz.results220, go_sem, r0, r1, r2, r3, r4]) rfl (post_end (wc := w1) (Nat.le_refl _) hq1 hbw F1.out ho4.out (er_bel EX.out HB.out) (HX.out.bel HB.out) ((HF.out.trans FX.out).trans (Fr.of HB.out)) _ _ _ _ _)
set_option maxRecDepth 100000 in
set_option maxHeartbeats 1000000 in
theorem runary_no {w : World} {l : TL} {v : Value} {b : RB} {i d : Nat} (h : Rd w l v b i d) (hd : d < 40) (hi : i < l.length) (op : Int) (hop : S3.okI op) (e : Ex) (n : Nat) (hn : 1 ≤ n) (hx : S3.exB ⟨4, op, 0, [], [e]⟩ = false)
    (C : ∀ W, Rd W l v b (i + 1) (d + 1) → Calls Tryz.prog 149 #[rp b] W (Post W l v b (d + 1) (.ok e n))) :
    Calls Tryz.prog 220 #[rp b, .int .i64 op] w (Post w l v b d (.bad (n - 1) 8)) := by
  have H := Lib.hid (fun o => h.al o)
  have pH := h.ptr
  have Q := Lib.hid (fun a0 a1 a2 a3 a4 => R5.new w a0 a1 a2 a3 a4)
  have hbw := h.lt
  have C := Lib.hid C
  clear h
  go_enter Tryz.func220, Tryz.ntmps220
  go_wp2_with fail
  refine (open_yes (H.out _) hd hi).mono ?_
  rintro E w1 ⟨rfl, hr1, hf1⟩
  have H1 := Lib.hid hr1
  have pH1 := H1.out.ptr
  have F1 := Lib.hid ((Fr.of (S3.bal w _)).trans hf1)
  have Q1 := Lib.hid ((Q.out _ _ _ _ _).fr (by omega) hf1)
  have hq1 := Q1.out.lt
  clear hr1 hf1
  go_wp2_with fail
  refine (C.out _ H1.out).mono ?_
  rintro E w2 ⟨A, k, c, rfl, ho, hE, hr, hf⟩
  have Q2 := Lib.hid (Q1.out.fr (by omega) hf)
  have HR := Lib.hid hr
  have pHR := HR.out.ptr
  have HF := Lib.hid hf
  have HE := Lib.hid hE
  have HO := Lib.hid ho
  have E2 := Lib.hid (S3.EBox.new w2 e (.slice A k c))
  have hb2 := hr.lt
  have hz2 := hf.size
  obtain ⟨p0, c0, c1, c2, f1, f2⟩ := hr.cells
  have hd2 := hr.hd
  clear hr hf hE ho C H1
  go_wp2_with fail
  have HX := Lib.hid ((HR.out.dec2.al (S3.eO e (.slice A k c))).al (S3.eO e (.slice A k c)))
  have pHX := HX.out.ptr
  have FX := Lib.hid ((((Fr.refl b w2).setN (.int .i64 (d : Int))).al (S3.eO e (.slice A k c))).al (S3.eO e (.slice A k c)))
  have FY := Lib.hid (((Fr.refl b w2).setN (.int .i64 (d : Int))).al (S3.eO e (.slice A k c)))
  have EX := er_one HO.out (n := w1.heap.size) (by have := FY.out.size; omega) (er_fr HE.out (by omega) FY.out)
  have hsz : (((w2.setCell ⟨b.r, 1, none⟩ (.int .i64 (d : Int))).alloc (S3.eO e (.slice A k c)))).heap.size = w2.heap.size + 1 := by simp [World.setCell]
  rw [hsz] at EX
  have EX := Lib.hid EX
  have QX := Lib.hid (Q2.out.fr (by omega) FX.out)
  have ho4 := Lib.hid (okE_op (k := 4) (s := []) (args := [e]) (by decide) hop (by simp))
  generalize ((w2.setCell ⟨b.r, 1, none⟩ (.int .i64 (d : Int))).alloc (S3.eO e (.slice A k c))).alloc (S3.eO e (.slice A k c)) = w3 at *
  clear Q2 HR HE E2 p0 c0 c1 c2 f1 f2 FY hsz
  refine (whole_no HX.out hn ⟨4, op, 0, [], [e]⟩ ho4.out _ 1 1 (er_in EX.out (Nat.le_refl _)) hx).mono ?_
  rintro E w4 ⟨rfl, hb⟩
  have HB := Lib.hid hb
  clear hb
  go_wp2_with fail
  exact ⟨rfl, rfl, ((F1.out.trans HF.out).trans FX.out).trans (Fr.of HB.out)⟩
set_option maxRecDepth 100000 in
set_option maxHeartbeats 1000000 in
theorem roperand_num {w : World} {l : TL} {v : Value} {b : RB} {i d : Nat} (h : Rd w l v b i d) (hk : (tkAt l i).1 = 2) (r : Res)
    (C : ∀ W, Rd W l v b i d → Calls Tryz.prog 189 #[rp b] W (Post W l v b d r)) :
    Calls Tryz.prog 149 #[rp b] w (Post w l v b d r) := by
  have T := fun o => token_calls (h.al o)
  rw [hk] at T
  have T := Lib.hid T
  have H := Lib.hid (fun o => h.al o)
  have pH := h.ptr
  have Q := Lib.hid (fun a0 a1 a2 a3 a4 => R5.new w a0 a1 a2 a3 a4)
  have hbw := h.lt
  have C := Lib.hid C
  clear h
  clear hk
  generalize tkAt l i = t at *
  go_enter Tryz.func149, Tryz.ntmps149
  go_wp2_with fail
  refine (T.out _).mono ?_
  rintro e w1 ⟨⟨a, rfl⟩, hb1⟩
  have HB1 := Lib.hid (after (S3.bal w _) hb1)
  have F1 := Lib.hid (Fr.of (b := b) HB1.out)
  have H1 := Lib.hid ((H.out _).bel hb1)
  have pH1 := H1.out.ptr
  have Q1 := Lib.hid ((Q.out _ _ _ _ _).bel hb1)
  clear hb1 T
  have hrt := run_tk
  go_wp2_with fail
  refine (C.out _ H1.out).mono ?_
  intro E w9 hP
  cases r with
  | bad j c =>
    obtain ⟨rfl, hf⟩ := hP
    have HF := Lib.hid hf
    clear hf
    go_wp2_with fail
    exact ⟨rfl, rfl, F1.out.trans HF.out⟩
  | ok e n =>
    obtain ⟨A, k, c, rfl, ho, hE, hr, hf⟩ := hP
    have hq2 := Q1.out.lt
    obtain ⟨z0, z1, z2, z3, z4, r0, r1, r2, r3, r4, y0, y1, y2, y3, y4⟩ := (Q1.out.fr (by omega) hf).facts
    have HR := Lib.hid hr
    have pHR := HR.out.ptr
    have HF := Lib.hid hf
    have HE := Lib.hid hE
    have HO := Lib.hid ho
    clear hr hf hE ho
    go_wp2_with fail
    exact bodyPost_ret (v := S3.eV e (.slice A k c)) (by simp [results, Tryz.results149, go_sem, r0, r1, r2, r3, r4]) rfl (post_end (Nat.le_refl _) hq2 hbw F1.out HO.out HE.out HR.out HF.out _ _ _ _ _)
set_option maxRecDepth 100000 in
set_option maxHeartbeats 1000000 in
theorem roperand_name {w : World} {l : TL} {v : Value} {b : RB} {i d : Nat} (h : Rd w l v b i d) (hk : (tkAt l i).1 = 1) (r : Res)
    (C : ∀ W, Rd W l v b i d → Calls Tryz.prog 190 #[rp b] W (Post W l v b d r)) :
    Calls Tryz.prog 149 #[rp b] w (Post w l v b d r) := by
  have T := fun o => token_calls (h.al o)
  rw [hk] at T
  have T := Lib.hid T
  have H := Lib.hid (fun o => h.al o)
  have pH := h.ptr
  have Q := Lib.hid (fun a0 a1 a2 a3 a4 => R5.new w a0 a1 a2 a3 a4)
  have hbw := h.lt
  have C := Lib.hid C
  clear h
  clear hk
  generalize tkAt l i = t at *
  go_enter Tryz.func149, Tryz.ntmps149
  go_wp2_with fail
  refine (T.out _).mono ?_
  rintro e w1 ⟨⟨a, rfl⟩, hb1⟩
  have HB1 := Lib.hid (after (S3.bal w _) hb1)
  have F1 := Lib.hid (Fr.of (b := b) HB1.out)
  have H1 := Lib.hid ((H.out _).bel hb1)
  have pH1 := H1.out.ptr
  have Q1 := Lib.hid ((Q.out _ _ _ _ _).bel hb1)
  clear hb1 T
  have hrt := run_tk
  go_wp2_with fail
  refine (C.out _ H1.out).mono ?_
  intro E w9 hP
  cases r with
  | bad j c =>
    obtain ⟨rfl, hf⟩ := hP
    have HF := Lib.hid hf
    clear hf
    go_wp2_with fail
    exact ⟨rfl, rfl, F1.out.trans HF.out⟩
  | ok e n =>
    obtain ⟨A, k, c, rfl, ho, hE, hr, hf⟩ := hP
    have hq2 := Q1.out.lt
    obtain ⟨z0, z1, z2, z3, z4, r0, r1, r2, r3, r4, y0, y1, y2, y3, y4⟩ := (Q1.out.fr (by omega) hf).facts
    have HR := Lib.hid hr
    have pHR := HR.out.ptr
    have HF := Lib.hid hf
    have HE := Lib.hid hE
    have HO := Lib.hid ho
    clear hr hf hE ho
    go_wp2_with fail
    exact bodyPost_ret (v := S3.eV e (.slice A k c)) (by simp [results, Tryz.results149, go_sem, r0, r1, r2, r3, r4]) rfl (post_end (Nat.le_refl _) hq2 hbw F1.out HO.out HE.out HR.out HF.out _ _ _ _ _)
set_option maxRecDepth 100000 in
set_option maxHeartbeats 1000000 in
theorem roperand_key {w : World} {l : TL} {v : Value} {b : RB} {i d : Nat} (h : Rd w l v b i d) (hk : (tkAt l i).1 = 3) (r : Res)
    (C : ∀ W, Rd W l v b i d → Calls Tryz.prog 191 #[rp b] W (Post W l v b d r)) :
    Calls Tryz.prog 149 #[rp b] w (Post w l v b d r) := by
  have T := fun o => token_calls (h.al o)
  rw [hk] at T
  have T := Lib.hid T
  have H := Lib.hid (fun o => h.al o)
  have pH := h.ptr
  have Q := Lib.hid (fun a0 a1 a2 a3 a4 => R5.new w a0 a1 a2 a3 a4)
  have hbw := h.lt
  have C := Lib.hid C
  clear h
  clear hk
  generalize tkAt l i = t at *
  go_enter Tryz.func149, Tryz.ntmps149
  go_wp2_with fail
  refine (T.out _).mono ?_
  rintro e w1 ⟨⟨a, rfl⟩, hb1⟩
  have HB1 := Lib.hid (after (S3.bal w _) hb1)
  have F1 := Lib.hid (Fr.of (b := b) HB1.out)
  have H1 := Lib.hid ((H.out _).bel hb1)
  have pH1 := H1.out.ptr
  have Q1 := Lib.hid ((Q.out _ _ _ _ _).bel hb1)
  clear hb1 T
  have hrt := run_tk
  go_wp2_with fail
  refine (C.out _ H1.out).mono ?_
  intro E w9 hP
  cases r with
  | bad j c =>
    obtain ⟨rfl, hf⟩ := hP
    have HF := Lib.hid hf
    clear hf
    go_wp2_with fail
    exact ⟨rfl, rfl, F1.out.trans HF.out⟩
  | ok e n =>
    obtain ⟨A, k, c, rfl, ho, hE, hr, hf⟩ := hP
    have hq2 := Q1.out.lt
    obtain ⟨z0, z1, z2, z3, z4, r0, r1, r2, r3, r4, y0, y1, y2, y3, y4⟩ := (Q1.out.fr (by omega) hf).facts
    have HR := Lib.hid hr
    have pHR := HR.out.ptr
    have HF := Lib.hid hf
    have HE := Lib.hid hE
    have HO := Lib.hid ho
    clear hr hf hE ho
    go_wp2_with fail
    exact bodyPost_ret (v := S3.eV e (.slice A k c)) (by simp [results, Tryz.results149, go_sem, r0, r1, r2, r3, r4]) rfl (post_end (Nat.le_refl _) hq2 hbw F1.out HO.out HE.out HR.out HF.out _ _ _ _ _)
set_option maxRecDepth 100000 in
set_option maxHeartbeats 1000000 in
theorem roperand_sign {w : World} {l : TL} {v : Value} {b : RB} {i d : Nat} (h : Rd w l v b i d) (h1 : (tkAt l i).1 ≠ 1) (h2 : (tkAt l i).1 ≠ 2) (h3 : (tkAt l i).1 ≠ 3) (r : Res)
    (C : ∀ W, Rd W l v b i d → Calls Tryz.prog 192 #[rp b] W (Post W l v b d r)) :
    Calls Tryz.prog 149 #[rp b] w (Post w l v b d r) := by
  have T := fun o => token_calls (h.al o)
  have q1 : ((tkAt l i).1 == 1) = false := beq_eq_false_iff_ne.2 h1
  have q2 : ((tkAt l i).1 == 2) = false := beq_eq_false_iff_ne.2 h2
  have q3 : ((tkAt l i).1 == 3) = false := beq_eq_false_iff_ne.2 h3
  have T := Lib.hid T
  have H := Lib.hid (fun o => h.al o)
  have pH := h.ptr
  have Q := Lib.hid (fun a0 a1 a2 a3 a4 => R5.new w a0 a1 a2 a3 a4)
  have hbw := h.lt
  have C := Lib.hid C
  clear h
  clear h1 h2 h3
  generalize tkAt l i = t at *
  go_enter Tryz.func149, Tryz.ntmps149
  go_wp2_with fail
  refine (T.out _).mono ?_
  rintro e w1 ⟨⟨a, rfl⟩, hb1⟩
  have HB1 := Lib.hid (after (S3.bal w _) hb1)
  have F1 := Lib.hid (Fr.of (b := b) HB1.out)
  have H1 := Lib.hid ((H.out _).bel hb1)
  have pH1 := H1.out.ptr
  have Q1 := Lib.hid ((Q.out _ _ _ _ _).bel hb1)
  clear hb1 T
  have hrt := run_tk
  go_wp2_with fail
  refine (C.out _ H1.out).mono ?_
  intro E w9 hP
  cases r with
  | bad j c =>
    obtain ⟨rfl, hf⟩ := hP
    have HF := Lib.hid hf
    clear hf
    go_wp2_with fail
    exact ⟨rfl, rfl, F1.out.trans HF.out⟩
  | ok e n =>
    obtain ⟨A, k, c, rfl, ho, hE, hr, hf⟩ := hP
    have hq2 := Q1.out.lt
    obtain ⟨z0, z1, z2, z3, z4, r0, r1, r2, r3, r4, y0, y1, y2, y3, y4⟩ := (Q1.out.fr (by omega) hf).facts
    have HR := Lib.hid hr
    have pHR := HR.out.ptr
    have HF := Lib.hid hf
    have HE := Lib.hid hE
    have HO := Lib.hid ho
    clear hr hf hE ho
    go_wp2_with fail
    exact bodyPost_ret (v := S3.eV e (.slice A k c)) (by simp [results, Tryz.results149, go_sem, r0, r1, r2, r3, r4]) rfl (post_end (Nat.le_refl _) hq2 hbw F1.out HO.out HE.out HR.out HF.out _ _ _ _ _)
end Go.Proofs.YtkpbplmmphpokaaGreatDoor.E5
