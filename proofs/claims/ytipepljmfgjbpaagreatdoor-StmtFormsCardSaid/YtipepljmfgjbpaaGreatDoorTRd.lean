/-
  The small functions of the reader of statements: contracts. Written by gen6_trd.py.
  The reader of statements: callee, and the statements that hold no block: contracts. Written by gen6_trd2.py.
  The reader of statements: return, var, and what stands behind a name and a sign of equality: contracts. Written by gen6_trd3.py.
  The reader of statements: var, and what stands behind a name and a sign of equality: contracts. Written by gen6_trd4.py.
  The reader of statements: what stands behind a name and a sign of equality: contracts. Written by gen6_trd5.py.
-/
import Derived.Test.YtipepljmfgjbpaaGreatDoorTTake
import Derived.Test.YtipepljmfgjbpaaGreatDoorTWord
namespace Go.Proofs.YtipepljmfgjbpaaGreatDoor.E6
open Go Go.RowKit Go.Proofs.YtipepljmfgjbpaaGreatDoor Go.Proofs.YtipepljmfgjbpaaGreatDoor.E5

set_option maxRecDepth 100000 in
set_option maxHeartbeats 1000000 in
theorem rexp_bad {w : World} {l : TL} {v : Value} {b : RB} {i d : Nat} (h : Rd w l v b i d) (j : Nat) (k : Int) (hr : parseR l i 0 = .bad j k) :
    Calls Tryz.prog 62 #[rp b] w (Post w l v b d (.bad j k)) := by
  have C := Lib.hid (fun o => takeE_bad (h.al o).cu j k hr)
  have H := Lib.hid (fun o => h.al o)
  have pH := h.ptr
  have hbw := h.lt
  have Q := Lib.hid (fun a0 a1 a2 a3 a4 => R5.new w a0 a1 a2 a3 a4)
  clear h hr
  go_enter Tryz.func62, Tryz.ntmps62
  go_wp2_with fail
  refine (C.out _).mono ?_
  rintro E w1 ⟨rfl, hf⟩
  have HF := Lib.hid hf
  clear hf
  go_wp2_with fail
  exact ⟨rfl, rfl, (Fr.of (S3.bal w _)).trans (.ofC HF.out)⟩
set_option maxRecDepth 100000 in
set_option maxHeartbeats 1000000 in
theorem rexp_ok {w : World} {l : TL} {v : Value} {b : RB} {i d : Nat} (h : Rd w l v b i d) (e : Ex) (n : Nat) (hr : parseR l i 0 = .ok e n) :
    Calls Tryz.prog 62 #[rp b] w (Post w l v b d (.ok e n)) := by
  have C := Lib.hid (fun o => takeE_ok (h.al o).cu e n hr)
  have H := Lib.hid (fun o => h.al o)
  have pH := h.ptr
  have hbw := h.lt
  have Q := Lib.hid (fun a0 a1 a2 a3 a4 => R5.new w a0 a1 a2 a3 a4)
  clear h hr
  go_enter Tryz.func62, Tryz.ntmps62
  go_wp2_with fail
  refine (C.out _).mono ?_
  rintro E w1 ⟨A, k, m, rfl, ho, hE, hC, hf⟩
  have HR := Lib.hid ((H.out _).go hC hf)
  have HF := Lib.hid (Fr.ofC (b := b) hf)
  have HE := Lib.hid hE
  have HO := Lib.hid ho
  have Q1 := Lib.hid ((Q.out _ _ _ _ _).fr hbw HF.out)
  have hq1 := Q1.out.lt
  clear hf hE ho hC
  obtain ⟨z0, z1, z2, z3, z4, r0, r1, r2, r3, r4, y0, y1, y2, y3, y4⟩ := Q1.out.facts
  go_wp2_with fail
  exact bodyPost_ret (v := S3.eV e (.slice A k m)) (by simp [results, Tryz.results62, go_sem, r0, r1, r2, r3, r4]) rfl (post_end (wc := w.alloc _) (Nat.le_refl _) (by rw [S3.sz1]; omega) hbw (Fr.of (S3.bal w _)) HO.out HE.out HR.out HF.out _ _ _ _ _)
theorem rexp_calls {w : World} {l : TL} {v : Value} {b : RB} {i d : Nat} (h : Rd w l v b i d) :
    Calls Tryz.prog 62 #[rp b] w (Post w l v b d (parseR l i 0)) := by
  cases hr : parseR l i 0 with
  | bad j k => exact rexp_bad h j k hr
  | ok e n => exact rexp_ok h e n hr
/-- One expression, as a list. -/
def oneL (l : TL) (i : Nat) : ResL := match parseR l i 0 with
  | .ok e n => .ok [e] n
  | .bad j c => .bad j c
set_option maxRecDepth 100000 in
set_option maxHeartbeats 1000000 in
theorem rone_calls {w : World} {l : TL} {v : Value} {b : RB} {i d : Nat} (h : Rd w l v b i d) :
    Calls Tryz.prog 58 #[rp b] w (PostL w l v b d (oneL l i)) := by
  have C := rexp_calls h
  unfold oneL
  generalize parseR l i 0 = r at *
  have C := Lib.hid C
  clear h
  go_enter Tryz.func58, Tryz.ntmps58
  go_wp2_with fail
  refine C.out.mono ?_
  intro E w1 hP
  cases r with
  | bad j c =>
    obtain ⟨rfl, hf⟩ := hP
    have HF := Lib.hid hf
    clear hf
    go_wp2_with fail
    exact ⟨rfl, rfl, HF.out⟩
  | ok e n =>
    obtain ⟨A, k, c, rfl, ho, hE, hr, hf⟩ := hP
    have HF := Lib.hid hf
    have HE := Lib.hid hE
    have HO := Lib.hid ho
    have HR := Lib.hid hr
    clear hf hE ho hr
    go_wp2_with fail
    go_ret
    exact ⟨some ⟨w1.heap.size, 0, none⟩, 1, rfl, er_one HO.out HF.out.size HE.out, HR.out.al _, HF.out.al _⟩
set_option maxRecDepth 100000 in
set_option maxHeartbeats 1000000 in
theorem rargs_bad {w : World} {l : TL} {v : Value} {b : RB} {i d : Nat} (h : Rd w l v b i d) (hll : l.length ≤ 1000000) (j : Nat) (k : Int) (hr : listR l i 0 = .bad j k) :
    Calls Tryz.prog 54 #[rp b] w (PostL w l v b d (.bad j k)) := by
  have C := Lib.hid (takeL_bad h.cu hll j k hr)
  have H := Lib.hid h
  have pH := h.ptr
  clear h hr
  go_enter Tryz.func54, Tryz.ntmps54
  go_wp2_with fail
  refine C.out.mono ?_
  rintro E w1 ⟨rfl, hf⟩
  have HF := Lib.hid hf
  clear hf
  go_wp2_with fail
  exact ⟨rfl, rfl, .ofC HF.out⟩
set_option maxRecDepth 100000 in
set_option maxHeartbeats 1000000 in
theorem rargs_ok {w : World} {l : TL} {v : Value} {b : RB} {i d : Nat} (h : Rd w l v b i d) (hll : l.length ≤ 1000000) (es : List Ex) (n : Nat) (hr : listR l i 0 = .ok es n) :
    Calls Tryz.prog 54 #[rp b] w (PostL w l v b d (.ok es n)) := by
  have C := Lib.hid (takeL_ok h.cu hll es n hr)
  have H := Lib.hid h
  have pH := h.ptr
  clear h hr
  go_enter Tryz.func54, Tryz.ntmps54
  go_wp2_with fail
  refine C.out.mono ?_
  rintro E w1 ⟨A, m, rfl, hE, hC, hf⟩
  have HR := Lib.hid (H.out.go hC hf)
  have HF := Lib.hid (Fr.ofC (b := b) hf)
  have HE := Lib.hid hE
  clear hf hE hC
  go_wp2_with fail
  go_ret
  exact ⟨A, m, rfl, HE.out, HR.out, HF.out⟩
set_option maxRecDepth 100000 in
set_option maxHeartbeats 1000000 in
theorem closed_yes {w : World} {l : TL} {v : Value} {b : RB} {i d : Nat} (h : Rd w l v b i d) (s : St) (Aa Ab Ae : Option Addr) (na ca nb cb ne ce : Nat) (hs : sgAt l i = [59]) :
    Calls Tryz.prog 53 #[rp b, S3.sV s (.slice Aa na ca) (.slice Ab nb cb) (.slice Ae ne ce)] w fun E w' => E = .returned (S3.sV s (.slice Aa na ca) (.slice Ab nb cb) (.slice Ae ne ce)) ∧ Rd w' l v b (i + 1) d ∧ Fr b w w' := by
  have C := Lib.hid (fun o1 o2 => pass_yes ((h.al o1).al o2) hs (by simp))
  have pH := h.ptr
  have hbw := h.lt
  have hz := S3.sz1 w
  have Q := Lib.hid (fun a0 a1 a2 a3 a4 a5 a6 a7 b0 b1 b2 b3 b4 b5 b6 b7 => (by have := R8.new (w.alloc (.cells #[b0, b1, b2, b3, b4, b5, b6, b7] 27)) a0 a1 a2 a3 a4 a5 a6 a7; rw [S3.sz1] at this; exact this : R8 ((w.alloc (.cells #[b0, b1, b2, b3, b4, b5, b6, b7] 27)).alloc (.cells #[a0, a1, a2, a3, a4, a5, a6, a7] 27)) (w.heap.size + 1)))
  have P := Lib.hid (fun a0 a1 a2 a3 a4 a5 a6 a7 o => ((Below.heap_alloc (w.alloc (.cells #[a0, a1, a2, a3, a4, a5, a6, a7] 27)) o w.heap.size (by rw [S3.sz1]; omega)).trans (heap_alloc_new w _) : ((w.alloc (.cells #[a0, a1, a2, a3, a4, a5, a6, a7] 27)).alloc o).heap[w.heap.size]? = some (.cells #[a0, a1, a2, a3, a4, a5, a6, a7] 27 (0, 0))))
  clear h hs
  go_enter Tryz.func53, Tryz.ntmps53
  go_wp2_with fail
  refine (C.out _ _).mono ?_
  rintro E w1 ⟨rfl, hr, hf⟩
  have HF := Lib.hid hf
  have HR := Lib.hid hr
  have Q1 := Lib.hid ((Q.out _ _ _ _ _ _ _ _ _ _ _ _ _ _ _ _).fr (by omega) hf)
  have P1 := Lib.hid ((hf.block _ (by rw [S3.sz1, S3.sz1]; omega) (by exact hbw)).trans (P.out _ _ _ _ _ _ _ _ _))
  have hq1 := Q1.out.lt
  clear hf hr
  obtain ⟨k0, k1, k2, k3, k4, k5, k6, k7⟩ := row8_facts P1.out
  obtain ⟨z0, z1, z2, z3, z4, z5, z6, z7, r0, r1, r2, r3, r4, r5, r6, r7, y0, y1, y2, y3, y4, y5, y6, y7⟩ := Q1.out.facts
  go_wp2_with fail
  exact bodyPost_ret (v := S3.sV s (.slice Aa na ca) (.slice Ab nb cb) (.slice Ae ne ce)) (by simp [results, Tryz.results53, go_sem, r0, r1, r2, r3, r4, r5, r6, r7]) rfl ⟨rfl, put8_rd HR.out (by omega) _ _ _ _ _ _ _ _, put8_fr (((Fr.of (S3.bal2 w _ _))).trans HF.out) (by omega) _ _ _ _ _ _ _ _⟩
set_option maxRecDepth 100000 in
theorem closed_no {w : World} {l : TL} {v : Value} {b : RB} {i d : Nat} (h : Rd w l v b i d) (s : St) (va vb ve : Value) (hs : sgAt l i ≠ [59]) :
    Calls Tryz.prog 53 #[rp b, S3.sV s va vb ve] w fun E w' => E = bad i 7 ∧ Fr b w w' := by
  have C := Lib.hid (fun o1 o2 => pass_no ((h.al o1).al o2) hs)
  have pH := h.ptr
  have hbw := h.lt
  clear h hs
  go_enter Tryz.func53, Tryz.ntmps53
  go_wp2_with fail
  refine (C.out _ _).mono ?_
  rintro E w1 ⟨rfl, hf⟩
  have HF := Lib.hid hf
  clear hf
  go_wp2_with fail
  exact ⟨rfl, rfl, (Fr.of (S3.bal2 w _ _)).trans HF.out⟩
/-- A statement that ends here, or does not. -/
theorem closed_calls {w : World} {l : TL} {v : Value} {b : RB} {i d n : Nat} (h : Rd w l v b i d) (hbn : b.r < n) (s : St) (va vb ve : Value) (hS : SIs w (Rn n w.heap.size) s va vb ve) :
    Calls Tryz.prog 53 #[rp b, S3.sV s va vb ve] w (fun E w' => match endS l s i with
      | .ok s m => E = .returned (S3.sV s va vb ve) ∧ SIs w' (Rn n w'.heap.size) s va vb ve ∧ Rd w' l v b m d ∧ Fr b w w'
      | .bad j c => E = bad j c ∧ Fr b w w') := by
  obtain ⟨Aa, ca, rfl⟩ := hS.a.slice
  obtain ⟨Ab, cb, rfl⟩ := hS.b.slice
  obtain ⟨Ae, ce, rfl⟩ := hS.e.slice
  unfold endS
  by_cases hs : sgAt l i = [59]
  · rw [if_pos hs]; exact (closed_yes h s Aa Ab Ae _ ca _ cb _ ce hs).mono fun E w' hx => ⟨hx.1, hS.fr hbn hx.2.2, hx.2.1, hx.2.2⟩
  · rw [if_neg hs]; exact closed_no h s _ _ _ hs
set_option maxRecDepth 100000 in
set_option maxHeartbeats 1000000 in
theorem rtype_yes {w : World} {l : TL} {v : Value} {b : RB} {i d : Nat} (h : Sd w l v b i d) (ht : typW (kwAt l i) ≠ 0) :
    Calls Tryz.prog 57 #[rp b] w fun E w' => E = .returned (.int .i64 (typW (kwAt l i))) ∧ Rd w' l v b (i + 1) d ∧ Fr b w w' := by
  have K := Lib.hid (rkeyw_calls h.rd)
  have H := Lib.hid h
  have pH := h.rd.ptr
  have hi : i < l.length := by
    rcases Nat.lt_or_ge i l.length with h1 | h1
    · exact h1
    · exfalso; apply ht
      have : kwAt l i = [] := by unfold kwAt tkAt; rw [List.getElem?_eq_none h1]; rfl
      rw [this]; decide
  have hle := h.rd.len
  have T := Lib.hid (fun W (hW : GlobW W) => type_calls (kwAt l i) W hW)
  have q : (typW (kwAt l i) != 0) = true := by simpa using ht
  clear h ht
  generalize kwAt l i = t at *
  generalize typW t = y at *
  go_enter Tryz.func57, Tryz.ntmps57
  go_wp2_with fail
  refine K.out.mono ?_
  rintro E w1 ⟨rfl, hb1⟩
  have H1 := Lib.hid (H.out.bel hb1)
  have HB1 := Lib.hid hb1
  have pH1 := H1.out.rd.ptr
  clear hb1
  go_wp2_with fail
  refine (T.out _ H1.out.gw).mono ?_
  rintro E w2 ⟨rfl, hb2⟩
  have H2 := Lib.hid (H1.out.bel hb2)
  have HB2 := Lib.hid (after HB1.out hb2)
  have pH2 := H2.out.rd.ptr
  clear hb2
  go_wp2_with fail
  refine (need_yes b.c _).mono ?_
  rintro E w3 ⟨rfl, rfl⟩
  obtain ⟨p0, c0, c1, c2, f1, f2⟩ := H2.out.rd.cells
  go_wp2_with fail
  go_ret
  exact ⟨rfl, H2.out.rd.inc1 hi, (Fr.of HB2.out).setA _⟩
set_option maxRecDepth 100000 in
set_option maxHeartbeats 1000000 in
theorem rtype_no {w : World} {l : TL} {v : Value} {b : RB} {i d : Nat} (h : Sd w l v b i d) (ht : typW (kwAt l i) = 0) :
    Calls Tryz.prog 57 #[rp b] w fun E w' => E = bad i 7 ∧ Fr b w w' := by
  have K := Lib.hid (rkeyw_calls h.rd)
  have H := Lib.hid h
  have pH := h.rd.ptr
  have T := Lib.hid (fun W (hW : GlobW W) => (ht ▸ type_calls (kwAt l i) W hW : Calls Tryz.prog 15 #[.string (B (kwAt l i))] W fun e w' => e = .returned (.int .i64 0) ∧ Below W.heap.size W w'))
  clear h ht
  generalize kwAt l i = t at *
  go_enter Tryz.func57, Tryz.ntmps57
  go_wp2_with fail
  refine K.out.mono ?_
  rintro E w1 ⟨rfl, hb1⟩
  have H1 := Lib.hid (H.out.bel hb1)
  have HB1 := Lib.hid hb1
  have pH1 := H1.out.rd.ptr
  clear hb1
  go_wp2_with fail
  refine (T.out _ H1.out.gw).mono ?_
  rintro E w2 ⟨rfl, hb2⟩
  have H2 := Lib.hid (H1.out.bel hb2)
  have HB2 := Lib.hid (after HB1.out hb2)
  have pH2 := H2.out.rd.ptr
  clear hb2
  go_wp2_with fail
  refine (need_no H2.out.rd).mono ?_
  rintro E w3 ⟨rfl, rfl⟩
  go_wp2_with fail
  exact ⟨rfl, rfl, Fr.of HB2.out⟩
end Go.Proofs.YtipepljmfgjbpaaGreatDoor.E6

namespace Go.Proofs.YtipepljmfgjbpaaGreatDoor.E6
open Go Go.RowKit Go.Proofs.YtipepljmfgjbpaaGreatDoor Go.Proofs.YtipepljmfgjbpaaGreatDoor.E5

/-- In the midst of a function whose result lies in the block that w has next. -/
structure Stt (w : World) (l : TL) (v : Value) (b : RB) (i d : Nat) (wk : World) : Prop where
  rd : Rd wk l v b i d
  gw : GlobW wk
  q : R8 wk w.heap.size
  f : Fr b (w.alloc sZ) wk
  hb : b.r < w.heap.size
theorem Stt.init {w : World} {l : TL} {v : Value} {b : RB} {i d : Nat} (h : Sd w l v b i d) : Stt w l v b i d (w.alloc sZ) :=
  ⟨h.rd.al _, (h.al _).gw, R8.new w _ _ _ _ _ _ _ _, Fr.refl b _, h.rd.lt⟩
theorem Stt.mv {w wk w' : World} {l : TL} {v : Value} {b : RB} {i d j : Nat} (h : Stt w l v b i d wk) (hr : Rd w' l v b j d) (hf : Fr b wk w') : Stt w l v b j d w' :=
  ⟨hr, h.gw.bel h.rd.cu.big (hf.bel (Nat.le_of_lt h.rd.cu.lt)), h.q.fr h.hb hf, h.f.trans hf, h.hb⟩
theorem Stt.bel {w wk w' : World} {l : TL} {v : Value} {b : RB} {i d : Nat} (h : Stt w l v b i d wk) (hb : Below wk.heap.size wk w') : Stt w l v b i d w' := h.mv (h.rd.bel hb) (Fr.of hb)
theorem Stt.al {w wk : World} {l : TL} {v : Value} {b : RB} {i d : Nat} (h : Stt w l v b i d wk) (o : Obj) : Stt w l v b i d (wk.alloc o) := h.bel (S3.bal wk o)
theorem Stt.inc {w wk : World} {l : TL} {v : Value} {b : RB} {i d : Nat} (h : Stt w l v b i d wk) (hi : i < l.length) : Stt w l v b (i + 1) d (wk.setCell ⟨b.c, 1, none⟩ (.int .i64 ((i : Int) + 1))) := h.mv (h.rd.inc1 hi) ((Fr.refl b wk).setA _)
theorem Stt.fr {w wk : World} {l : TL} {v : Value} {b : RB} {i d : Nat} (h : Stt w l v b i d wk) : Fr b w wk := (Fr.of (S3.bal w sZ)).trans h.f
theorem Stt.le {w wk : World} {l : TL} {v : Value} {b : RB} {i d : Nat} (h : Stt w l v b i d wk) : w.heap.size + 1 ≤ wk.heap.size := by have := h.f.size; rwa [S3.sz1] at this
theorem Stt.sd {w wk : World} {l : TL} {v : Value} {b : RB} {i d : Nat} (h : Stt w l v b i d wk) : Sd wk l v b i d := ⟨h.rd, h.gw⟩
theorem Stt.done {w wk : World} {l : TL} {v : Value} {b : RB} {i d : Nat} {s : St} {va vb ve : Value} (h : Stt w l v b i d wk) (hS : SIs wk (Rn (w.heap.size + 1) wk.heap.size) s va vb ve) :
    PostS w l v b d (.ok s i) (.returned (S3.sV s va vb ve)) (putS wk w.heap.size s va vb ve) :=
  postS_end (wc := w.alloc sZ) (Nat.le_refl _) (by rw [S3.sz1]; omega) h.hb (Fr.of (S3.bal w sZ)) (by rw [S3.sz1]; exact hS) h.rd h.f
theorem one_bad {w : World} {l : TL} {v : Value} {b : RB} {i d : Nat} (h : Rd w l v b i d) {j : Nat} {k : Int} (hr : parseR l i 0 = .bad j k) :
    Calls Tryz.prog 58 #[rp b] w fun E w' => E = bad j k ∧ Fr b w w' := by
  have C := rone_calls h; unfold oneL at C; rw [hr] at C; exact C
theorem one_ok {w : World} {l : TL} {v : Value} {b : RB} {i d : Nat} (h : Rd w l v b i d) {e : Ex} {n : Nat} (hr : parseR l i 0 = .ok e n) :
    Calls Tryz.prog 58 #[rp b] w fun E w' => ∃ A c, E = .returned (.slice A 1 c) ∧ S3.ER w' (Rn w.heap.size w'.heap.size) [e] (.slice A 1 c) ∧ Rd w' l v b n d ∧ Fr b w w' := by
  have C := rone_calls h; unfold oneL at C; rw [hr] at C; exact C
theorem args_bad {w : World} {l : TL} {v : Value} {b : RB} {i d : Nat} (h : Rd w l v b i d) (hll : l.length ≤ 1000000) {j : Nat} {k : Int} (hr : listR l i 0 = .bad j k) :
    Calls Tryz.prog 54 #[rp b] w fun E w' => E = bad j k ∧ Fr b w w' := rargs_bad h hll j k hr
theorem args_ok {w : World} {l : TL} {v : Value} {b : RB} {i d : Nat} (h : Rd w l v b i d) (hll : l.length ≤ 1000000) {es : List Ex} {n : Nat} (hr : listR l i 0 = .ok es n) :
    Calls Tryz.prog 54 #[rp b] w fun E w' => ∃ A c, E = .returned (.slice A es.length c) ∧ S3.ER w' (Rn w.heap.size w'.heap.size) es (.slice A es.length c) ∧ Rd w' l v b n d ∧ Fr b w w' := rargs_ok h hll es n hr
theorem okS_of {s : St} (hk : 0 ≤ s.kind ∧ s.kind ≤ 10) (hn : s.no = 0) (ht : 0 ≤ s.typ ∧ s.typ ≤ 3) (h1 : s.name.length ≤ 9223372036854775807) (h2 : s.callee.length ≤ 9223372036854775807) : S3.OkS s :=
  ⟨okI_small hk.1 (by omega), by rw [hn]; exact okI_small (Int.le_refl 0) (by decide), okI_small ht.1 (by omega), h1, h2⟩
theorem typW_lo (s : Bytes) : 0 ≤ typW s ∧ typW s ≤ 3 := by
  unfold typW
  by_cases h1 : s = wInt
  · rw [if_pos h1]; decide
  rw [if_neg h1]
  by_cases h2 : s = wBool
  · rw [if_pos h2]; decide
  rw [if_neg h2]
  by_cases h3 : s = wArray
  · rw [if_pos h3]; decide
  · rw [if_neg h3]; decide
set_option maxRecDepth 100000 in
set_option maxHeartbeats 2000000 in
theorem callee_a {w : World} {l : TL} {v : Value} {b : RB} {i d : Nat} (h : Rd w l v b i d) (hll : l.length ≤ 1000000) (k0 : (tkAt l i).1 ≠ 1) :
    Calls Tryz.prog 61 #[rp b] w fun E w' => E = .returned (.bool false) ∧ Below w.heap.size w w' := by
  have hi := h.hi
  have q0 : ((tkAt l i).1 == 1) = false := beq_eq_false_iff_ne.2 k0
  have T1 := Lib.hid (token_cu h.cu 1 (by omega))
  have T0 := Lib.hid (fun W (hW : Rd W l v b i d) => token_calls hW)
  have H := Lib.hid h
  have pH := h.ptr
  have hbw := h.lt
  clear h k0 hi hll
  generalize tkAt l i = t0 at *
  generalize tkAt l (i + 1) = t1 at *
  go_enter Tryz.func61, Tryz.ntmps61
  go_wp2_with fail
  refine T1.out.mono ?_
  rintro E w1 ⟨⟨a, rfl⟩, hb1⟩
  have HB1 := Lib.hid hb1
  have H1 := Lib.hid (H.out.bel hb1)
  have pH1 := H1.out.ptr
  have hbw1 := H1.out.lt
  clear hb1
  go_wp2_with fail
  refine (T0.out _ (H1.out.al _)).mono ?_
  rintro E w2 ⟨⟨a', rfl⟩, hb2⟩
  have HB2 := Lib.hid (after HB1.out (after (S3.bal w1 _) hb2))
  have P2 := Lib.hid ((hb2.block w1.heap.size (by rw [S3.sz1]; omega)).trans (heap_alloc_new w1 _))
  have c0 := (cell_of_row _ _ 0 _ _ _ P2.out).trans rfl
  have c1 := (cell_of_row _ _ 1 _ _ _ P2.out).trans rfl
  have rk := run_tk t0.1 (B t0.2) a' w2
  clear hb2
  go_wp2_with fail
  go_ret
  exact ⟨rfl, HB2.out⟩
set_option maxRecDepth 100000 in
set_option maxHeartbeats 2000000 in
theorem callee_b {w : World} {l : TL} {v : Value} {b : RB} {i d : Nat} (h : Rd w l v b i d) (hll : l.length ≤ 1000000) (k0 : (tkAt l i).1 = 1) (k1 : (tkAt l (i + 1)).1 ≠ 4) :
    Calls Tryz.prog 61 #[rp b] w fun E w' => E = .returned (.bool false) ∧ Below w.heap.size w w' := by
  have hi := h.hi
  have q0 : ((tkAt l i).1 == 1) = true := by rw [k0]; rfl
  have q1 : ((tkAt l (i + 1)).1 == 4) = false := beq_eq_false_iff_ne.2 k1
  have T1 := Lib.hid (token_cu h.cu 1 (by omega))
  have T0 := Lib.hid (fun W (hW : Rd W l v b i d) => token_calls hW)
  have H := Lib.hid h
  have pH := h.ptr
  have hbw := h.lt
  clear h k0 k1 hi hll
  generalize tkAt l i = t0 at *
  generalize tkAt l (i + 1) = t1 at *
  go_enter Tryz.func61, Tryz.ntmps61
  go_wp2_with fail
  refine T1.out.mono ?_
  rintro E w1 ⟨⟨a, rfl⟩, hb1⟩
  have HB1 := Lib.hid hb1
  have H1 := Lib.hid (H.out.bel hb1)
  have pH1 := H1.out.ptr
  have hbw1 := H1.out.lt
  clear hb1
  go_wp2_with fail
  refine (T0.out _ (H1.out.al _)).mono ?_
  rintro E w2 ⟨⟨a', rfl⟩, hb2⟩
  have HB2 := Lib.hid (after HB1.out (after (S3.bal w1 _) hb2))
  have P2 := Lib.hid ((hb2.block w1.heap.size (by rw [S3.sz1]; omega)).trans (heap_alloc_new w1 _))
  have c0 := (cell_of_row _ _ 0 _ _ _ P2.out).trans rfl
  have c1 := (cell_of_row _ _ 1 _ _ _ P2.out).trans rfl
  have rk := run_tk t0.1 (B t0.2) a' w2
  clear hb2
  go_wp2_with fail
  go_ret
  exact ⟨rfl, HB2.out⟩
set_option maxRecDepth 100000 in
set_option maxHeartbeats 2000000 in
theorem callee_c {w : World} {l : TL} {v : Value} {b : RB} {i d : Nat} (h : Rd w l v b i d) (hll : l.length ≤ 1000000) (k0 : (tkAt l i).1 = 1) (k1 : (tkAt l (i + 1)).1 = 4) (k2 : (tkAt l (i + 1)).2 ≠ [40]) :
    Calls Tryz.prog 61 #[rp b] w fun E w' => E = .returned (.bool false) ∧ Below w.heap.size w w' := by
  have hi := h.hi
  have q0 : ((tkAt l i).1 == 1) = true := by rw [k0]; rfl
  have q1 : ((tkAt l (i + 1)).1 == 4) = true := by rw [k1]; rfl
  have q2 : ((tkAt l (i + 1)).2 == [40]) = false := beq_eq_false_iff_ne.2 k2
  have T1 := Lib.hid (token_cu h.cu 1 (by omega))
  have T0 := Lib.hid (fun W (hW : Rd W l v b i d) => token_calls hW)
  have H := Lib.hid h
  have pH := h.ptr
  have hbw := h.lt
  clear h k0 k1 k2 hi hll
  generalize tkAt l i = t0 at *
  generalize tkAt l (i + 1) = t1 at *
  go_enter Tryz.func61, Tryz.ntmps61
  go_wp2_with fail
  refine T1.out.mono ?_
  rintro E w1 ⟨⟨a, rfl⟩, hb1⟩
  have HB1 := Lib.hid hb1
  have H1 := Lib.hid (H.out.bel hb1)
  have pH1 := H1.out.ptr
  have hbw1 := H1.out.lt
  clear hb1
  go_wp2_with fail
  refine (T0.out _ (H1.out.al _)).mono ?_
  rintro E w2 ⟨⟨a', rfl⟩, hb2⟩
  have HB2 := Lib.hid (after HB1.out (after (S3.bal w1 _) hb2))
  have P2 := Lib.hid ((hb2.block w1.heap.size (by rw [S3.sz1]; omega)).trans (heap_alloc_new w1 _))
  have c0 := (cell_of_row _ _ 0 _ _ _ P2.out).trans rfl
  have c1 := (cell_of_row _ _ 1 _ _ _ P2.out).trans rfl
  have rk := run_tk t0.1 (B t0.2) a' w2
  clear hb2
  go_wp2_with fail
  go_ret
  exact ⟨rfl, HB2.out⟩
set_option maxRecDepth 100000 in
set_option maxHeartbeats 2000000 in
theorem callee_d {w : World} {l : TL} {v : Value} {b : RB} {i d : Nat} (h : Rd w l v b i d) (hll : l.length ≤ 1000000) (k0 : (tkAt l i).1 = 1) (k1 : (tkAt l (i + 1)).1 = 4) (k2 : (tkAt l (i + 1)).2 = [40]) :
    Calls Tryz.prog 61 #[rp b] w fun E w' => E = .returned (.bool true) ∧ Below w.heap.size w w' := by
  have hi := h.hi
  have q0 : ((tkAt l i).1 == 1) = true := by rw [k0]; rfl
  have q1 : ((tkAt l (i + 1)).1 == 4) = true := by rw [k1]; rfl
  have q2 : ((tkAt l (i + 1)).2 == [40]) = true := by rw [k2]; rfl
  have T1 := Lib.hid (token_cu h.cu 1 (by omega))
  have T0 := Lib.hid (fun W (hW : Rd W l v b i d) => token_calls hW)
  have H := Lib.hid h
  have pH := h.ptr
  have hbw := h.lt
  clear h k0 k1 k2 hi hll
  generalize tkAt l i = t0 at *
  generalize tkAt l (i + 1) = t1 at *
  go_enter Tryz.func61, Tryz.ntmps61
  go_wp2_with fail
  refine T1.out.mono ?_
  rintro E w1 ⟨⟨a, rfl⟩, hb1⟩
  have HB1 := Lib.hid hb1
  have H1 := Lib.hid (H.out.bel hb1)
  have pH1 := H1.out.ptr
  have hbw1 := H1.out.lt
  clear hb1
  go_wp2_with fail
  refine (T0.out _ (H1.out.al _)).mono ?_
  rintro E w2 ⟨⟨a', rfl⟩, hb2⟩
  have HB2 := Lib.hid (after HB1.out (after (S3.bal w1 _) hb2))
  have P2 := Lib.hid ((hb2.block w1.heap.size (by rw [S3.sz1]; omega)).trans (heap_alloc_new w1 _))
  have c0 := (cell_of_row _ _ 0 _ _ _ P2.out).trans rfl
  have c1 := (cell_of_row _ _ 1 _ _ _ P2.out).trans rfl
  have rk := run_tk t0.1 (B t0.2) a' w2
  clear hb2
  go_wp2_with fail
  go_ret
  exact ⟨rfl, HB2.out⟩
theorem callee_calls {w : World} {l : TL} {v : Value} {b : RB} {i d : Nat} (h : Rd w l v b i d) (hll : l.length ≤ 1000000) :
    Calls Tryz.prog 61 #[rp b] w fun E w' => E = .returned (.bool (decide ((tkAt l i).1 = 1 ∧ sgAt l (i + 1) = [40]))) ∧ Below w.heap.size w w' := by
  by_cases k0 : (tkAt l i).1 = 1
  · by_cases k1 : (tkAt l (i + 1)).1 = 4
    · have e : sgAt l (i + 1) = (tkAt l (i + 1)).2 := by unfold sgAt; rw [if_pos k1]
      by_cases k2 : (tkAt l (i + 1)).2 = [40]
      · rw [show decide ((tkAt l i).1 = 1 ∧ sgAt l (i + 1) = [40]) = true from decide_eq_true ⟨k0, by rw [e]; exact k2⟩]; exact callee_d h hll k0 k1 k2
      · rw [show decide ((tkAt l i).1 = 1 ∧ sgAt l (i + 1) = [40]) = false from decide_eq_false (fun x => k2 (by rw [← e]; exact x.2))]; exact callee_c h hll k0 k1 k2
    · have e : sgAt l (i + 1) = [] := by unfold sgAt; rw [if_neg k1]
      rw [show decide ((tkAt l i).1 = 1 ∧ sgAt l (i + 1) = [40]) = false from decide_eq_false (fun x => by rw [e] at x; exact absurd x.2 (by simp))]; exact callee_b h hll k0 k1
  · rw [show decide ((tkAt l i).1 = 1 ∧ sgAt l (i + 1) = [40]) = false from decide_eq_false (fun x => k0 x.1)]; exact callee_a h hll k0
set_option maxRecDepth 100000 in
set_option maxHeartbeats 2000000 in
theorem input_yes {w : World} {l : TL} {v : Value} {b : RB} {i d : Nat} (h : Sd w l v b i d) (hn : nmTok (tkAt l i) = true) :
    Calls Tryz.prog 45 #[rp b] w (PostS w l v b d (endS l (sRead (tkAt l i).2) (i + 1))) := by
  have S0 := Lib.hid (Stt.init h)
  have N := Lib.hid (rname_yes S0.out.rd hn)
  have pH := h.rd.ptr
  have hx := h.rd.text i
  have hbw := h.rd.lt
  clear h hn
  generalize (tkAt l i).2 = x at *
  obtain ⟨R, hR⟩ : ∃ R, R = endS l (sRead x) (i + 1) := ⟨_, rfl⟩
  rw [← hR]
  go_enter Tryz.func45, Tryz.ntmps45
  go_wp2_with fail
  refine N.out.mono ?_
  rintro E w1 ⟨rfl, hr, hf⟩
  have S1 := Lib.hid (S0.out.mv hr hf)
  have pH1 := hr.ptr
  have C := closed_calls hr (n := w.heap.size + 1) (by omega) (sRead x) (.slice none 0 0) (.slice none 0 0) (.slice none 0 0) ⟨(okS_of ⟨by show (0 : Int) ≤ 5; decide, by show (5 : Int) ≤ 10; decide⟩ rfl ⟨by show (0 : Int) ≤ 0; decide, by show (0 : Int) ≤ 3; decide⟩ hx (by simp)), er_nil _ _, sr_nil _ _, sr_nil _ _⟩
  rw [← hR] at C
  have C := Lib.hid C
  clear hr hf N hR
  go_wp2_with fail
  refine C.out.mono ?_
  intro E w2 hP
  cases R with
  | bad j c =>
    obtain ⟨rfl, hf⟩ := hP
    have HF := Lib.hid hf
    clear hf C
    go_wp2_with fail
    exact ⟨rfl, rfl, S1.out.fr.trans HF.out⟩
  | ok s m =>
    obtain ⟨rfl, hS, hr, hf⟩ := hP
    have SE := Lib.hid (S1.out.mv hr hf)
    have HS := Lib.hid hS
    have hqE := SE.out.q.lt
    clear hf hr hS C
    obtain ⟨z0, z1, z2, z3, z4, z5, z6, z7, r0, r1, r2, r3, r4, r5, r6, r7, y0, y1, y2, y3, y4, y5, y6, y7⟩ := SE.out.q.facts
    go_wp2_with fail
    exact bodyPost_ret (v := S3.sV s (.slice none 0 0) (.slice none 0 0) (.slice none 0 0)) (by simp [results, Tryz.results45, go_sem, r0, r1, r2, r3, r4, r5, r6, r7]) rfl (SE.out.done HS.out)
set_option maxRecDepth 100000 in
set_option maxHeartbeats 2000000 in
theorem input_no {w : World} {l : TL} {v : Value} {b : RB} {i d : Nat} (h : Sd w l v b i d) (hn : nmTok (tkAt l i) = false) :
    Calls Tryz.prog 45 #[rp b] w (PostS w l v b d (.bad i 7)) := by
  have S0 := Lib.hid (Stt.init h)
  have N := Lib.hid (rname_no S0.out.rd hn)
  have pH := h.rd.ptr
  have hbw := h.rd.lt
  clear h hn
  go_enter Tryz.func45, Tryz.ntmps45
  go_wp2_with fail
  refine N.out.mono ?_
  rintro E w1 ⟨rfl, hf⟩
  have HF := Lib.hid hf
  clear hf
  go_wp2_with fail
  exact ⟨rfl, rfl, S0.out.fr.trans HF.out⟩
set_option maxRecDepth 100000 in
set_option maxHeartbeats 2000000 in
theorem input_calls {w : World} {l : TL} {v : Value} {b : RB} {i d : Nat} (h : Sd w l v b i d) :
    Calls Tryz.prog 45 #[rp b] w (PostS w l v b d (readS l i)) := by
  unfold readS
  cases hn : nmTok (tkAt l i) with
  | true => exact input_yes h hn
  | false => exact input_no h hn
set_option maxRecDepth 100000 in
set_option maxHeartbeats 2000000 in
theorem output_bad {w : World} {l : TL} {v : Value} {b : RB} {i d : Nat} (h : Sd w l v b i d) (j : Nat) (k : Int) (hp : parseR l i 0 = .bad j k) :
    Calls Tryz.prog 46 #[rp b] w (PostS w l v b d (.bad j k)) := by
  have S0 := Lib.hid (Stt.init h)
  have N := Lib.hid (one_bad S0.out.rd hp)
  have hbw := h.rd.lt
  clear h hp
  go_enter Tryz.func46, Tryz.ntmps46
  go_wp2_with fail
  refine N.out.mono ?_
  rintro E w1 ⟨rfl, hf⟩
  have HF := Lib.hid hf
  clear hf
  go_wp2_with fail
  exact ⟨rfl, rfl, S0.out.fr.trans HF.out⟩
set_option maxRecDepth 100000 in
set_option maxHeartbeats 2000000 in
theorem output_ok {w : World} {l : TL} {v : Value} {b : RB} {i d : Nat} (h : Sd w l v b i d) (e : Ex) (n : Nat) (hp : parseR l i 0 = .ok e n) :
    Calls Tryz.prog 46 #[rp b] w (PostS w l v b d (endS l (sPrint e) n)) := by
  have S0 := Lib.hid (Stt.init h)
  have N := Lib.hid (one_ok S0.out.rd hp)
  have hbw := h.rd.lt
  clear h hp
  obtain ⟨R, hR⟩ : ∃ R, R = endS l (sPrint e) n := ⟨_, rfl⟩
  rw [← hR]
  go_enter Tryz.func46, Tryz.ntmps46
  go_wp2_with fail
  refine N.out.mono ?_
  rintro E w1 ⟨A, c, rfl, hE, hr, hf⟩
  have S1 := Lib.hid (S0.out.mv hr hf)
  have pH1 := hr.ptr
  rw [S3.sz1] at hE
  have C := closed_calls hr (n := w.heap.size + 1) (by omega) (sPrint e) (.slice A 1 c) (.slice none 0 0) (.slice none 0 0) ⟨(okS_of ⟨by show (0 : Int) ≤ 6; decide, by show (6 : Int) ≤ 10; decide⟩ rfl ⟨by show (0 : Int) ≤ 0; decide, by show (0 : Int) ≤ 3; decide⟩ (by simp) (by simp)), hE, sr_nil _ _, sr_nil _ _⟩
  rw [← hR] at C
  have C := Lib.hid C
  clear hr hf N hR hE
  go_wp2_with fail
  refine C.out.mono ?_
  intro E w2 hP
  cases R with
  | bad j c =>
    obtain ⟨rfl, hf⟩ := hP
    have HF := Lib.hid hf
    clear hf C
    go_wp2_with fail
    exact ⟨rfl, rfl, S1.out.fr.trans HF.out⟩
  | ok s m =>
    obtain ⟨rfl, hS, hr, hf⟩ := hP
    have SE := Lib.hid (S1.out.mv hr hf)
    have HS := Lib.hid hS
    have hqE := SE.out.q.lt
    clear hf hr hS C
    obtain ⟨z0, z1, z2, z3, z4, z5, z6, z7, r0, r1, r2, r3, r4, r5, r6, r7, y0, y1, y2, y3, y4, y5, y6, y7⟩ := SE.out.q.facts
    go_wp2_with fail
    exact bodyPost_ret (v := S3.sV s (.slice A 1 c) (.slice none 0 0) (.slice none 0 0)) (by simp [results, Tryz.results46, go_sem, r0, r1, r2, r3, r4, r5, r6, r7]) rfl (SE.out.done HS.out)
set_option maxRecDepth 100000 in
set_option maxHeartbeats 2000000 in
theorem output_calls {w : World} {l : TL} {v : Value} {b : RB} {i d : Nat} (h : Sd w l v b i d) :
    Calls Tryz.prog 46 #[rp b] w (PostS w l v b d (valS l sPrint i)) := by
  unfold valS
  cases hp : parseR l i 0 with
  | bad j k => exact output_bad h j k hp
  | ok e n => exact output_ok h e n hp
end Go.Proofs.YtipepljmfgjbpaaGreatDoor.E6

namespace Go.Proofs.YtipepljmfgjbpaaGreatDoor.E6
open Go Go.RowKit Go.Proofs.YtipepljmfgjbpaaGreatDoor Go.Proofs.YtipepljmfgjbpaaGreatDoor.E5

theorem Stt.put {w wk : World} {l : TL} {v : Value} {b : RB} {i d : Nat} (h : Stt w l v b i d wk) {p : Nat} (hp : w.heap.size + 1 ≤ p) (o : Nat) (u : Value) : Stt w l v b i d (wk.setCell ⟨p, o, none⟩ u) := by
  have hb := h.hb
  have h0 : R8 (wk.setCell ⟨p, o, none⟩ u) w.heap.size := by
    obtain ⟨a0, a1, a2, a3, a4, a5, a6, a7, hq⟩ := h.q
    exact ⟨a0, a1, a2, a3, a4, a5, a6, a7, (Below.heap_setCell wk ⟨p, o, none⟩ u w.heap.size (by show w.heap.size ≠ p; omega)).trans hq⟩
  exact ⟨h.rd.other (p := ⟨p, o, none⟩) (by show b.r < p; omega) u, h.gw.bel (M := b.r) (by have := h.rd.big; omega) ((Below.refl _ wk).setCell (p := ⟨p, o, none⟩) (by show b.r ≤ p; omega) u), h0, h.f.setNew (p := ⟨p, o, none⟩) (by rw [S3.sz1]; exact hp) u, hb⟩
theorem er_set {w : World} {n p : Nat} {l : List Ex} {v : Value} (h : S3.ER w (Rn n w.heap.size) l v) (hp : p < n) (o : Nat) (u : Value) : S3.ER (w.setCell ⟨p, o, none⟩ u) (Rn n (w.setCell ⟨p, o, none⟩ u).heap.size) l v :=
  er_frc h hp ((FrC.refl p w).set o u)
/-- A row of eight cells that is a statement's. -/
abbrev Row8 (w : World) (p : Nat) (a0 a1 a2 a3 a4 a5 a6 a7 : Value) : Prop := w.heap[p]? = some (.cells #[a0, a1, a2, a3, a4, a5, a6, a7] 27 (0, 0))
theorem row8_R8 {w : World} {p : Nat} {a0 a1 a2 a3 a4 a5 a6 a7 : Value} (h : Row8 w p a0 a1 a2 a3 a4 a5 a6 a7) : R8 w p := ⟨_, _, _, _, _, _, _, _, h⟩
theorem row8_new (w : World) (a0 a1 a2 a3 a4 a5 a6 a7 : Value) : Row8 (w.alloc (.cells #[a0, a1, a2, a3, a4, a5, a6, a7] 27)) w.heap.size a0 a1 a2 a3 a4 a5 a6 a7 := heap_alloc_new w _
theorem row8_f5 {w : World} {p : Nat} {a0 a1 a2 a3 a4 a5 a6 a7 : Value} (h : Row8 w p a0 a1 a2 a3 a4 a5 a6 a7) : w.frozen? ⟨p, 5, none⟩ = false := by unfold World.frozen?; rw [h]; rfl
theorem row8_f7 {w : World} {p : Nat} {a0 a1 a2 a3 a4 a5 a6 a7 : Value} (h : Row8 w p a0 a1 a2 a3 a4 a5 a6 a7) : w.frozen? ⟨p, 7, none⟩ = false := by unfold World.frozen?; rw [h]; rfl
set_option maxRecDepth 100000 in
set_option maxHeartbeats 2000000 in
theorem ret_none {w : World} {l : TL} {v : Value} {b : RB} {i d : Nat} (h : Sd w l v b i d) (hs : sgAt l i = [59]) :
    Calls Tryz.prog 47 #[rp b] w (PostS w l v b d (.ok (sRet []) (i + 1))) := by
  have S0 := Lib.hid (Stt.init h)
  have N := Lib.hid (fun o => rsign_calls (S0.out.al o).rd)
  have hbw := h.rd.lt
  have pH := h.rd.ptr
  have hz0 : (w.alloc sZ).heap.size = w.heap.size + 1 := S3.sz1 w sZ
  have P := Lib.hid (fun a0 a1 a2 a3 a4 a5 a6 a7 => (by have := row8_new (w.alloc sZ) a0 a1 a2 a3 a4 a5 a6 a7; rw [S3.sz1] at this; exact this : Row8 ((w.alloc sZ).alloc (.cells #[a0, a1, a2, a3, a4, a5, a6, a7] 27)) (w.heap.size + 1) a0 a1 a2 a3 a4 a5 a6 a7))
  have q : (sgAt l i == [59]) = true := by rw [hs]; rfl
  have hen : endS l (sRet []) i = .ok (sRet []) (i + 1) := by unfold endS; rw [if_pos hs]
  clear h hs
  generalize sgAt l i = t at *
  go_enter Tryz.func47, Tryz.ntmps47
  go_wp2_with fail
  refine (N.out _).mono ?_
  rintro E w1 ⟨rfl, hb1⟩
  have S1 := Lib.hid ((S0.out.al _).bel hb1)
  have P1 := Lib.hid ((hb1.block (w.heap.size + 1) (by rw [S3.sz1, S3.sz1]; omega)).trans (P.out _ _ _ _ _ _ _ _))
  have hp1 : w.heap.size + 1 < w1.heap.size := row8_R8 P1.out |>.lt
  have pH1 := S1.out.rd.ptr
  have hbw1 := S1.out.rd.lt
  clear hb1 N P
  obtain ⟨k0, k1, k2, k3, k4, k5, k6, k7⟩ := row8_facts P1.out
  have C := closed_calls S1.out.rd (n := w.heap.size + 1) (by omega) (sRet []) (.slice none 0 0) (.slice none 0 0) (.slice none 0 0) ⟨(okS_of ⟨by show (0 : Int) ≤ 8; decide, by show (8 : Int) ≤ 10; decide⟩ rfl ⟨by show (0 : Int) ≤ 0; decide, by show (0 : Int) ≤ 3; decide⟩ (by simp) (by simp)), er_nil _ _, sr_nil _ _, sr_nil _ _⟩
  rw [hen] at C
  have C := Lib.hid C
  clear hen
  go_wp2_with fail
  refine C.out.mono ?_
  rintro E w2 ⟨rfl, hS, hr, hf⟩
  have SE := Lib.hid (S1.out.mv hr hf)
  have HS := Lib.hid hS
  have hqE := SE.out.q.lt
  clear hf hr hS C k0 k1 k2 k3 k4 k5 k6 k7
  obtain ⟨z0, z1, z2, z3, z4, z5, z6, z7, r0, r1, r2, r3, r4, r5, r6, r7, y0, y1, y2, y3, y4, y5, y6, y7⟩ := SE.out.q.facts
  go_wp2_with fail
  exact bodyPost_ret (v := S3.sV (sRet []) (.slice none 0 0) (.slice none 0 0) (.slice none 0 0)) (by simp [results, Tryz.results47, go_sem, r0, r1, r2, r3, r4, r5, r6, r7]) rfl (SE.out.done HS.out)
set_option maxRecDepth 100000 in
set_option maxHeartbeats 2000000 in
theorem ret_bad {w : World} {l : TL} {v : Value} {b : RB} {i d : Nat} (h : Sd w l v b i d) (hs : sgAt l i ≠ [59]) (j : Nat) (k : Int) (hp : parseR l i 0 = .bad j k) :
    Calls Tryz.prog 47 #[rp b] w (PostS w l v b d (.bad j k)) := by
  have S0 := Lib.hid (Stt.init h)
  have N := Lib.hid (fun o => rsign_calls (S0.out.al o).rd)
  have hbw := h.rd.lt
  have pH := h.rd.ptr
  have hz0 : (w.alloc sZ).heap.size = w.heap.size + 1 := S3.sz1 w sZ
  have P := Lib.hid (fun a0 a1 a2 a3 a4 a5 a6 a7 => (by have := row8_new (w.alloc sZ) a0 a1 a2 a3 a4 a5 a6 a7; rw [S3.sz1] at this; exact this : Row8 ((w.alloc sZ).alloc (.cells #[a0, a1, a2, a3, a4, a5, a6, a7] 27)) (w.heap.size + 1) a0 a1 a2 a3 a4 a5 a6 a7))
  have q : (sgAt l i == [59]) = false := beq_eq_false_iff_ne.2 hs
  clear h hs
  generalize sgAt l i = t at *
  go_enter Tryz.func47, Tryz.ntmps47
  go_wp2_with fail
  refine (N.out _).mono ?_
  rintro E w1 ⟨rfl, hb1⟩
  have S1 := Lib.hid ((S0.out.al _).bel hb1)
  have P1 := Lib.hid ((hb1.block (w.heap.size + 1) (by rw [S3.sz1, S3.sz1]; omega)).trans (P.out _ _ _ _ _ _ _ _))
  have hp1 : w.heap.size + 1 < w1.heap.size := row8_R8 P1.out |>.lt
  have pH1 := S1.out.rd.ptr
  have hbw1 := S1.out.rd.lt
  clear hb1 N P
  have M := Lib.hid (one_bad S1.out.rd hp)
  clear hp
  go_wp2_with fail
  refine M.out.mono ?_
  rintro E w2 ⟨rfl, hf⟩
  have HF := Lib.hid hf
  clear hf
  go_wp2_with fail
  exact ⟨rfl, rfl, S1.out.fr.trans HF.out⟩
set_option maxRecDepth 100000 in
set_option maxHeartbeats 2000000 in
theorem ret_ok {w : World} {l : TL} {v : Value} {b : RB} {i d : Nat} (h : Sd w l v b i d) (hs : sgAt l i ≠ [59]) (e : Ex) (n : Nat) (hp : parseR l i 0 = .ok e n) :
    Calls Tryz.prog 47 #[rp b] w (PostS w l v b d (endS l (sRet [e]) n)) := by
  have S0 := Lib.hid (Stt.init h)
  have N := Lib.hid (fun o => rsign_calls (S0.out.al o).rd)
  have hbw := h.rd.lt
  have pH := h.rd.ptr
  have hz0 : (w.alloc sZ).heap.size = w.heap.size + 1 := S3.sz1 w sZ
  have P := Lib.hid (fun a0 a1 a2 a3 a4 a5 a6 a7 => (by have := row8_new (w.alloc sZ) a0 a1 a2 a3 a4 a5 a6 a7; rw [S3.sz1] at this; exact this : Row8 ((w.alloc sZ).alloc (.cells #[a0, a1, a2, a3, a4, a5, a6, a7] 27)) (w.heap.size + 1) a0 a1 a2 a3 a4 a5 a6 a7))
  have q : (sgAt l i == [59]) = false := beq_eq_false_iff_ne.2 hs
  clear h hs
  generalize sgAt l i = t at *
  obtain ⟨R, hR⟩ : ∃ R, R = endS l (sRet [e]) n := ⟨_, rfl⟩
  rw [← hR]
  go_enter Tryz.func47, Tryz.ntmps47
  go_wp2_with fail
  refine (N.out _).mono ?_
  rintro E w1 ⟨rfl, hb1⟩
  have S1 := Lib.hid ((S0.out.al _).bel hb1)
  have P1 := Lib.hid ((hb1.block (w.heap.size + 1) (by rw [S3.sz1, S3.sz1]; omega)).trans (P.out _ _ _ _ _ _ _ _))
  have hp1 : w.heap.size + 1 < w1.heap.size := row8_R8 P1.out |>.lt
  have pH1 := S1.out.rd.ptr
  have hbw1 := S1.out.rd.lt
  clear hb1 N P
  have M := Lib.hid (one_ok S1.out.rd hp)
  clear hp
  go_wp2_with fail
  refine M.out.mono ?_
  rintro E w2 ⟨A, c, rfl, hE, hr, hf⟩
  have S2 := Lib.hid (S1.out.mv hr hf)
  have P2 := Lib.hid ((hf.block (w.heap.size + 1) hp1 (by omega)).trans P1.out)
  have hp2 : (w.heap.size + 1) < w2.heap.size := row8_R8 P2.out |>.lt
  have HE := Lib.hid hE
  have g5 := row8_f5 P2.out
  obtain ⟨k0, k1, k2, k3, k4, k5, k6, k7⟩ := row8_facts P2.out
  clear hE hr hf M
  have S3' := Lib.hid (S2.out.put (p := w.heap.size + 1) (Nat.le_refl _) 5 (.slice A 1 c))
  have C := closed_calls S3'.out.rd (n := w.heap.size + 1) (by omega) (sRet [e]) (.slice A 1 c) (.slice none 0 0) (.slice none 0 0) ⟨(okS_of ⟨by show (0 : Int) ≤ 8; decide, by show (8 : Int) ≤ 10; decide⟩ rfl ⟨by show (0 : Int) ≤ 0; decide, by show (0 : Int) ≤ 3; decide⟩ (by simp) (by simp)), er_mono (er_set HE.out hp1 5 (.slice A 1 c)) (by omega) (Nat.le_refl _), sr_nil _ _, sr_nil _ _⟩
  rw [← hR] at C
  have C := Lib.hid C
  clear hR
  go_wp2_with fail
  refine C.out.mono ?_
  intro E w3 hP
  cases R with
  | bad j c =>
    obtain ⟨rfl, hf⟩ := hP
    have HF := Lib.hid hf
    clear hf C
    go_wp2_with fail
    exact ⟨rfl, rfl, S3'.out.fr.trans HF.out⟩
  | ok s m =>
    obtain ⟨rfl, hS, hr, hf⟩ := hP
    have SE := Lib.hid (S3'.out.mv hr hf)
    have HS := Lib.hid hS
    have hqE := SE.out.q.lt
    clear hf hr hS C
    obtain ⟨z0, z1, z2, z3, z4, z5, z6, z7, r0, r1, r2, r3, r4, r5, r6, r7, y0, y1, y2, y3, y4, y5, y6, y7⟩ := SE.out.q.facts
    go_wp2_with fail
    exact bodyPost_ret (v := S3.sV s (.slice A 1 c) (.slice none 0 0) (.slice none 0 0)) (by simp [results, Tryz.results47, go_sem, r0, r1, r2, r3, r4, r5, r6, r7]) rfl (SE.out.done HS.out)
set_option maxRecDepth 100000 in
set_option maxHeartbeats 2000000 in
theorem ret_calls {w : World} {l : TL} {v : Value} {b : RB} {i d : Nat} (h : Sd w l v b i d) :
    Calls Tryz.prog 47 #[rp b] w (PostS w l v b d (retS l i)) := by
  unfold retS
  by_cases hs : sgAt l i = [59]
  · rw [if_pos hs]; exact ret_none h hs
  · rw [if_neg hs]
    unfold valS
    cases hp : parseR l i 0 with
    | bad j k => exact ret_bad h hs j k hp
    | ok e n => exact ret_ok h hs e n hp
end Go.Proofs.YtipepljmfgjbpaaGreatDoor.E6

namespace Go.Proofs.YtipepljmfgjbpaaGreatDoor.E6
open Go Go.RowKit Go.Proofs.YtipepljmfgjbpaaGreatDoor Go.Proofs.YtipepljmfgjbpaaGreatDoor.E5

set_option maxRecDepth 100000 in
set_option maxHeartbeats 2000000 in
theorem decl_no {w : World} {l : TL} {v : Value} {b : RB} {i d : Nat} (h : Sd w l v b i d) (hn : nmTok (tkAt l i) = false) :
    Calls Tryz.prog 44 #[rp b] w (PostS w l v b d (.bad i 7)) := by
  have Y0 := Lib.hid (Stt.init h)
  have N := Lib.hid (rname_no Y0.out.rd hn)
  have pH := h.rd.ptr
  have hbw := h.rd.lt
  clear h hn
  go_enter Tryz.func44, Tryz.ntmps44
  go_wp2_with fail
  refine (N.out).mono ?_
  rintro E wz ⟨rfl, hf⟩
  have HF := Lib.hid hf
  clear hf
  go_wp2_with fail
  exact ⟨rfl, rfl, Y0.out.fr.trans HF.out⟩
set_option maxRecDepth 100000 in
set_option maxHeartbeats 2000000 in
theorem decl_type {w : World} {l : TL} {v : Value} {b : RB} {i d : Nat} (h : Sd w l v b i d) (hn : nmTok (tkAt l i) = true) (ht : typW (kwAt l (i + 1)) = 0) :
    Calls Tryz.prog 44 #[rp b] w (PostS w l v b d (.bad (i + 1) 7)) := by
  have Y0 := Lib.hid (Stt.init h)
  have N := Lib.hid (rname_yes Y0.out.rd hn)
  have pH := h.rd.ptr
  have hx := h.rd.text i
  have hbw := h.rd.lt
  clear h hn
  generalize (tkAt l i).2 = x at *
  have ht := Lib.hid ht
  go_enter Tryz.func44, Tryz.ntmps44
  go_wp2_with fail
  refine (N.out).mono ?_
  rintro E w1 ⟨rfl, hr, hf⟩
  have Y1 := Lib.hid (Y0.out.mv hr hf)
  have pH1 := Y1.out.rd.ptr
  have hbw1 := Y1.out.rd.lt
  clear hr hf
  have T := Lib.hid (rtype_no Y1.out.sd ht.out)
  go_wp2_with fail
  refine (T.out).mono ?_
  rintro E wz ⟨rfl, hf⟩
  have HF := Lib.hid hf
  clear hf
  go_wp2_with fail
  exact ⟨rfl, rfl, Y1.out.fr.trans HF.out⟩
set_option maxRecDepth 100000 in
set_option maxHeartbeats 2000000 in
theorem decl_plain {w : World} {l : TL} {v : Value} {b : RB} {i d : Nat} (h : Sd w l v b i d) (hn : nmTok (tkAt l i) = true) (ht : typW (kwAt l (i + 1)) ≠ 0) (hs : sgAt l (i + 2) ≠ [61]) :
    Calls Tryz.prog 44 #[rp b] w (PostS w l v b d (endS l (sVar (tkAt l i).2 (typW (kwAt l (i + 1))) []) (i + 2))) := by
  have hy := Lib.hid (typW_lo (kwAt l (i + 1)))
  have HT := Lib.hid ht
  clear ht
  have q : (sgAt l (i + 2) == [61]) = false := beq_eq_false_iff_ne.2 hs
  have Y0 := Lib.hid (Stt.init h)
  have N := Lib.hid (rname_yes Y0.out.rd hn)
  have pH := h.rd.ptr
  have hx := h.rd.text i
  have hbw := h.rd.lt
  clear h hn
  generalize (tkAt l i).2 = x at *
  clear hs
  obtain ⟨R, hR⟩ : ∃ R, R = endS l (sVar x (typW (kwAt l (i + 1))) []) (i + 2) := ⟨_, rfl⟩
  rw [← hR]
  go_enter Tryz.func44, Tryz.ntmps44
  go_wp2_with fail
  refine (N.out).mono ?_
  rintro E w1 ⟨rfl, hr, hf⟩
  have Y1 := Lib.hid (Y0.out.mv hr hf)
  have pH1 := Y1.out.rd.ptr
  have hbw1 := Y1.out.rd.lt
  clear hr hf
  have T := Lib.hid (rtype_yes Y1.out.sd HT.out)
  go_wp2_with fail
  refine (T.out).mono ?_
  rintro E w2 ⟨rfl, hr, hf⟩
  have Y2 := Lib.hid (Y1.out.mv hr hf)
  have pH2 := Y2.out.rd.ptr
  have hbw2 := Y2.out.rd.lt
  clear hr hf
  have hz2 := S3.sz1 w2
  have N2 := Lib.hid (fun o => rsign_calls (Y2.out.al o).rd)
  have P := Lib.hid (fun a0 a1 a2 a3 a4 a5 a6 a7 => row8_new w2 a0 a1 a2 a3 a4 a5 a6 a7)
  have hw2 := Y2.out.le
  go_wp2_with fail
  refine (N2.out _).mono ?_
  rintro E w3 ⟨rfl, hb3⟩
  have Y3 := Lib.hid ((Y2.out.al _).bel hb3)
  have P3 := Lib.hid ((hb3.block w2.heap.size (by rw [hz2]; omega)).trans (P.out _ _ _ _ _ _ _ _))
  have hp3 : w2.heap.size < w3.heap.size := row8_R8 P3.out |>.lt
  have pH3 := Y3.out.rd.ptr
  have hbw3 := Y3.out.rd.lt
  clear hb3 N2 P T hz2
  obtain ⟨k0, k1, k2, k3, k4, k5, k6, k7⟩ := row8_facts P3.out
  have C := closed_calls Y3.out.rd (n := w.heap.size + 1) (by omega) (sVar x (typW (kwAt l (i + 1))) []) (.slice none 0 0) (.slice none 0 0) (.slice none 0 0) ⟨(okS_of ⟨by show (0 : Int) ≤ 1; decide, by show (1 : Int) ≤ 10; decide⟩ rfl hy.out hx (by simp)), er_nil _ _, sr_nil _ _, sr_nil _ _⟩
  rw [← hR] at C
  have C := Lib.hid C
  clear hR
  generalize sgAt l (i + 2) = t at *
  go_wp2_with fail
  refine C.out.mono ?_
  intro E w4 hP
  cases R with
  | bad j c =>
    obtain ⟨rfl, hf⟩ := hP
    have HF := Lib.hid hf
    clear hf C
    go_wp2_with fail
    exact ⟨rfl, rfl, Y3.out.fr.trans HF.out⟩
  | ok s m =>
    obtain ⟨rfl, hS, hr, hf⟩ := hP
    have SE := Lib.hid (Y3.out.mv hr hf)
    have HS := Lib.hid hS
    have hqE := SE.out.q.lt
    clear hf hr hS C
    obtain ⟨z0, z1, z2, z3, z4, z5, z6, z7, r0, r1, r2, r3, r4, r5, r6, r7, y0, y1, y2, y3, y4, y5, y6, y7⟩ := SE.out.q.facts
    go_wp2_with fail
    exact bodyPost_ret (v := S3.sV s (.slice none 0 0) (.slice none 0 0) (.slice none 0 0)) (by simp [results, Tryz.results44, go_sem, r0, r1, r2, r3, r4, r5, r6, r7]) rfl (SE.out.done HS.out)
set_option maxRecDepth 100000 in
set_option maxHeartbeats 2000000 in
theorem decl_bad {w : World} {l : TL} {v : Value} {b : RB} {i d : Nat} (h : Sd w l v b i d) (hn : nmTok (tkAt l i) = true) (ht : typW (kwAt l (i + 1)) ≠ 0) (n2 : Nat) (hn2 : n2 = i + 2) (hs : sgAt l n2 = [61]) (j : Nat) (k : Int) (hp : parseR l (n2 + 1) 0 = .bad j k) :
    Calls Tryz.prog 44 #[rp b] w (PostS w l v b d (.bad j k)) := by
  have hy := Lib.hid (typW_lo (kwAt l (i + 1)))
  have HT := Lib.hid ht
  clear ht
  have HN2 := Lib.hid hn2
  clear hn2
  have q : (sgAt l n2 == [61]) = true := by rw [hs]; rfl
  have hi := sgAt_lt hs (by simp)
  have Y0 := Lib.hid (Stt.init h)
  have N := Lib.hid (rname_yes Y0.out.rd hn)
  have pH := h.rd.ptr
  have hx := h.rd.text i
  have hbw := h.rd.lt
  clear h hn
  generalize (tkAt l i).2 = x at *
  clear hs
  go_enter Tryz.func44, Tryz.ntmps44
  go_wp2_with fail
  refine (N.out).mono ?_
  rintro E w1 ⟨rfl, hr, hf⟩
  have Y1 := Lib.hid (Y0.out.mv hr hf)
  have pH1 := Y1.out.rd.ptr
  have hbw1 := Y1.out.rd.lt
  clear hr hf
  have T := Lib.hid (rtype_yes Y1.out.sd HT.out)
  go_wp2_with fail
  refine (T.out).mono ?_
  rintro E w2 ⟨rfl, hr, hf⟩
  have Y2 := Lib.hid (Y1.out.mv hr hf)
  have pH2 := Y2.out.rd.ptr
  have hbw2 := Y2.out.rd.lt
  clear hr hf
  have hz2 := S3.sz1 w2
  have Y2 := Lib.hid (HN2.out ▸ Y2.out : Stt w l v b n2 d w2)
  have N2 := Lib.hid (fun o => rsign_calls (Y2.out.al o).rd)
  have P := Lib.hid (fun a0 a1 a2 a3 a4 a5 a6 a7 => row8_new w2 a0 a1 a2 a3 a4 a5 a6 a7)
  have hw2 := Y2.out.le
  go_wp2_with fail
  refine (N2.out _).mono ?_
  rintro E w3 ⟨rfl, hb3⟩
  have Y3 := Lib.hid ((Y2.out.al _).bel hb3)
  have P3 := Lib.hid ((hb3.block w2.heap.size (by rw [hz2]; omega)).trans (P.out _ _ _ _ _ _ _ _))
  have hp3 : w2.heap.size < w3.heap.size := row8_R8 P3.out |>.lt
  have pH3 := Y3.out.rd.ptr
  have hbw3 := Y3.out.rd.lt
  clear hb3 N2 P T hz2
  generalize sgAt l n2 = t at *
  have hlen := Y3.out.rd.len
  obtain ⟨p0, c0, c1, c2, f1, f2⟩ := Y3.out.rd.cells
  go_wp2_with fail
  have Y4 := Lib.hid (Y3.out.inc hi)
  have P4 := Lib.hid ((Below.heap_setCell w3 ⟨b.c, 1, none⟩ (.int .i64 ((n2 : Nat) + 1 : Int)) w2.heap.size (by have := b.lt; show w2.heap.size ≠ b.c; omega)).trans P3.out)
  have pH4 := Y4.out.rd.ptr
  have hbw4 := Y4.out.rd.lt
  clear p0 c0 c1 c2 f1 f2
  generalize w3.setCell ⟨b.c, 1, none⟩ (.int .i64 ((n2 : Nat) + 1 : Int)) = w4 at *
  have M := Lib.hid (one_bad Y4.out.rd hp)
  clear hp
  refine (M.out).mono ?_
  rintro E wz ⟨rfl, hf⟩
  have HF := Lib.hid hf
  clear hf
  go_wp2_with fail
  exact ⟨rfl, rfl, Y4.out.fr.trans HF.out⟩
set_option maxRecDepth 100000 in
set_option maxHeartbeats 2000000 in
theorem decl_ok {w : World} {l : TL} {v : Value} {b : RB} {i d : Nat} (h : Sd w l v b i d) (hn : nmTok (tkAt l i) = true) (ht : typW (kwAt l (i + 1)) ≠ 0) (n2 : Nat) (hn2 : n2 = i + 2) (hs : sgAt l n2 = [61]) (e : Ex) (n : Nat) (hp : parseR l (n2 + 1) 0 = .ok e n) :
    Calls Tryz.prog 44 #[rp b] w (PostS w l v b d (endS l (sVar (tkAt l i).2 (typW (kwAt l (i + 1))) [e]) n)) := by
  have hy := Lib.hid (typW_lo (kwAt l (i + 1)))
  have HT := Lib.hid ht
  clear ht
  have HN2 := Lib.hid hn2
  clear hn2
  have q : (sgAt l n2 == [61]) = true := by rw [hs]; rfl
  have hi := sgAt_lt hs (by simp)
  have Y0 := Lib.hid (Stt.init h)
  have N := Lib.hid (rname_yes Y0.out.rd hn)
  have pH := h.rd.ptr
  have hx := h.rd.text i
  have hbw := h.rd.lt
  clear h hn
  generalize (tkAt l i).2 = x at *
  clear hs
  obtain ⟨R, hR⟩ : ∃ R, R = endS l (sVar x (typW (kwAt l (i + 1))) [e]) n := ⟨_, rfl⟩
  rw [← hR]
  go_enter Tryz.func44, Tryz.ntmps44
  go_wp2_with fail
  refine (N.out).mono ?_
  rintro E w1 ⟨rfl, hr, hf⟩
  have Y1 := Lib.hid (Y0.out.mv hr hf)
  have pH1 := Y1.out.rd.ptr
  have hbw1 := Y1.out.rd.lt
  clear hr hf
  have T := Lib.hid (rtype_yes Y1.out.sd HT.out)
  go_wp2_with fail
  refine (T.out).mono ?_
  rintro E w2 ⟨rfl, hr, hf⟩
  have Y2 := Lib.hid (Y1.out.mv hr hf)
  have pH2 := Y2.out.rd.ptr
  have hbw2 := Y2.out.rd.lt
  clear hr hf
  have hz2 := S3.sz1 w2
  have Y2 := Lib.hid (HN2.out ▸ Y2.out : Stt w l v b n2 d w2)
  have N2 := Lib.hid (fun o => rsign_calls (Y2.out.al o).rd)
  have P := Lib.hid (fun a0 a1 a2 a3 a4 a5 a6 a7 => row8_new w2 a0 a1 a2 a3 a4 a5 a6 a7)
  have hw2 := Y2.out.le
  go_wp2_with fail
  refine (N2.out _).mono ?_
  rintro E w3 ⟨rfl, hb3⟩
  have Y3 := Lib.hid ((Y2.out.al _).bel hb3)
  have P3 := Lib.hid ((hb3.block w2.heap.size (by rw [hz2]; omega)).trans (P.out _ _ _ _ _ _ _ _))
  have hp3 : w2.heap.size < w3.heap.size := row8_R8 P3.out |>.lt
  have pH3 := Y3.out.rd.ptr
  have hbw3 := Y3.out.rd.lt
  clear hb3 N2 P T hz2
  generalize sgAt l n2 = t at *
  have hlen := Y3.out.rd.len
  obtain ⟨p0, c0, c1, c2, f1, f2⟩ := Y3.out.rd.cells
  go_wp2_with fail
  have Y4 := Lib.hid (Y3.out.inc hi)
  have P4 := Lib.hid ((Below.heap_setCell w3 ⟨b.c, 1, none⟩ (.int .i64 ((n2 : Nat) + 1 : Int)) w2.heap.size (by have := b.lt; show w2.heap.size ≠ b.c; omega)).trans P3.out)
  have pH4 := Y4.out.rd.ptr
  have hbw4 := Y4.out.rd.lt
  clear p0 c0 c1 c2 f1 f2
  generalize w3.setCell ⟨b.c, 1, none⟩ (.int .i64 ((n2 : Nat) + 1 : Int)) = w4 at *
  have M := Lib.hid (one_ok Y4.out.rd hp)
  clear hp
  have hp4 : w2.heap.size < w4.heap.size := row8_R8 P4.out |>.lt
  refine M.out.mono ?_
  rintro E w5 ⟨A, c, rfl, hE, hr, hf⟩
  have Y5 := Lib.hid (Y4.out.mv hr hf)
  have P5 := Lib.hid ((hf.block w2.heap.size hp4 (by omega)).trans P4.out)
  have hp5 : w2.heap.size < w5.heap.size := row8_R8 P5.out |>.lt
  have HE := Lib.hid hE
  have g5 := row8_f5 P5.out
  obtain ⟨k0, k1, k2, k3, k4, k5, k6, k7⟩ := row8_facts P5.out
  clear hE hr hf M
  have Y6 := Lib.hid (Y5.out.put (p := w2.heap.size) hw2 5 (.slice A 1 c))
  have C := closed_calls Y6.out.rd (n := w.heap.size + 1) (by omega) (sVar x (typW (kwAt l (i + 1))) [e]) (.slice A 1 c) (.slice none 0 0) (.slice none 0 0) ⟨(okS_of ⟨by show (0 : Int) ≤ 1; decide, by show (1 : Int) ≤ 10; decide⟩ rfl hy.out hx (by simp)), er_mono (er_set HE.out hp4 5 (.slice A 1 c)) (by omega) (Nat.le_refl _), sr_nil _ _, sr_nil _ _⟩
  rw [← hR] at C
  have C := Lib.hid C
  clear hR
  go_wp2_with fail
  refine C.out.mono ?_
  intro E w6 hP
  cases R with
  | bad j c =>
    obtain ⟨rfl, hf⟩ := hP
    have HF := Lib.hid hf
    clear hf C
    go_wp2_with fail
    exact ⟨rfl, rfl, Y6.out.fr.trans HF.out⟩
  | ok s m =>
    obtain ⟨rfl, hS, hr, hf⟩ := hP
    have SE := Lib.hid (Y6.out.mv hr hf)
    have HS := Lib.hid hS
    have hqE := SE.out.q.lt
    clear hf hr hS C
    obtain ⟨z0, z1, z2, z3, z4, z5, z6, z7, r0, r1, r2, r3, r4, r5, r6, r7, y0, y1, y2, y3, y4, y5, y6, y7⟩ := SE.out.q.facts
    go_wp2_with fail
    exact bodyPost_ret (v := S3.sV s (.slice A 1 c) (.slice none 0 0) (.slice none 0 0)) (by simp [results, Tryz.results44, go_sem, r0, r1, r2, r3, r4, r5, r6, r7]) rfl (SE.out.done HS.out)
set_option maxRecDepth 100000 in
set_option maxHeartbeats 2000000 in
theorem decl_calls {w : World} {l : TL} {v : Value} {b : RB} {i d : Nat} (h : Sd w l v b i d) :
    Calls Tryz.prog 44 #[rp b] w (PostS w l v b d (varS l i)) := by
  unfold varS
  cases hn : nmTok (tkAt l i) with
  | false => exact decl_no h hn
  | true =>
    rw [if_pos rfl]
    by_cases ht : typW (kwAt l (i + 1)) = 0
    · rw [if_pos ht]; exact decl_type h hn ht
    · rw [if_neg ht]
      by_cases hs : sgAt l (i + 2) = [61]
      · rw [if_pos hs]
        unfold valS
        cases hp : parseR l (i + 3) 0 with
        | bad j k => exact decl_bad h hn ht (i + 2) rfl hs j k hp
        | ok e n => exact decl_ok h hn ht (i + 2) rfl hs e n hp
      · rw [if_neg hs]; exact decl_plain h hn ht hs
end Go.Proofs.YtipepljmfgjbpaaGreatDoor.E6

namespace Go.Proofs.YtipepljmfgjbpaaGreatDoor.E6
open Go Go.RowKit Go.Proofs.YtipepljmfgjbpaaGreatDoor Go.Proofs.YtipepljmfgjbpaaGreatDoor.E5

set_option maxRecDepth 100000 in
set_option maxHeartbeats 2000000 in
theorem asg_new_bad {w : World} {l : TL} {v : Value} {b : RB} {i d : Nat} (h : Sd w l v b i d) (x : Bytes) (_hx : x.length ≤ 9223372036854775807) (hk : kwAt l i = wNew) (j : Nat) (k : Int) (hp : parseR l (i + 1) 0 = .bad j k) :
    Calls Tryz.prog 51 #[rp b, .string (B x)] w (PostS w l v b d (.bad j k)) := by
  have q : (kwAt l i == [110, 101, 119]) = true := by rw [hk]; rfl
  have hi := kwAt_lt hk (by decide)
  have Y0 := Lib.hid (Stt.init h)
  have N := Lib.hid (rkeyw_calls Y0.out.rd)
  have pH := h.rd.ptr
  have hbw := h.rd.lt
  clear h hk
  generalize kwAt l i = t at *
  go_enter Tryz.func51, Tryz.ntmps51
  go_wp2_with fail
  refine (N.out).mono ?_
  rintro E w1 ⟨rfl, hb1⟩
  have Y1 := Lib.hid (Y0.out.bel hb1)
  have pH1 := Y1.out.rd.ptr
  have hbw1 := Y1.out.rd.lt
  clear N hb1
  have hlen := Y1.out.rd.len
  obtain ⟨p0, c0, c1, c2, f1, f2⟩ := Y1.out.rd.cells
  go_wp2_with fail
  have Y2 := Lib.hid (Y1.out.inc hi)
  have pH2 := Y2.out.rd.ptr
  have hbw2 := Y2.out.rd.lt
  clear p0 c0 c1 c2 f1 f2
  generalize w1.setCell ⟨b.c, 1, none⟩ (.int .i64 ((i : Nat) + 1 : Int)) = w2 at *
  have M := Lib.hid (one_bad Y2.out.rd hp)
  clear hp
  refine (M.out).mono ?_
  rintro E wz ⟨rfl, hf⟩
  have HF := Lib.hid hf
  clear hf
  go_wp2_with fail
  exact ⟨rfl, rfl, Y2.out.fr.trans HF.out⟩
set_option maxRecDepth 100000 in
set_option maxHeartbeats 2000000 in
theorem asg_new_ok {w : World} {l : TL} {v : Value} {b : RB} {i d : Nat} (h : Sd w l v b i d) (x : Bytes) (hx : x.length ≤ 9223372036854775807) (hk : kwAt l i = wNew) (e : Ex) (n : Nat) (hp : parseR l (i + 1) 0 = .ok e n) :
    Calls Tryz.prog 51 #[rp b, .string (B x)] w (PostS w l v b d (endS l (sNew x e) n)) := by
  have q : (kwAt l i == [110, 101, 119]) = true := by rw [hk]; rfl
  have hi := kwAt_lt hk (by decide)
  have Y0 := Lib.hid (Stt.init h)
  have N := Lib.hid (rkeyw_calls Y0.out.rd)
  have pH := h.rd.ptr
  have hbw := h.rd.lt
  clear h hk
  generalize kwAt l i = t at *
  obtain ⟨R, hR⟩ : ∃ R, R = endS l (sNew x e) n := ⟨_, rfl⟩
  rw [← hR]
  go_enter Tryz.func51, Tryz.ntmps51
  go_wp2_with fail
  refine (N.out).mono ?_
  rintro E w1 ⟨rfl, hb1⟩
  have Y1 := Lib.hid (Y0.out.bel hb1)
  have pH1 := Y1.out.rd.ptr
  have hbw1 := Y1.out.rd.lt
  clear N hb1
  have hlen := Y1.out.rd.len
  obtain ⟨p0, c0, c1, c2, f1, f2⟩ := Y1.out.rd.cells
  go_wp2_with fail
  have Y2 := Lib.hid (Y1.out.inc hi)
  have pH2 := Y2.out.rd.ptr
  have hbw2 := Y2.out.rd.lt
  clear p0 c0 c1 c2 f1 f2
  generalize w1.setCell ⟨b.c, 1, none⟩ (.int .i64 ((i : Nat) + 1 : Int)) = w2 at *
  have M := Lib.hid (one_ok Y2.out.rd hp)
  clear hp
  refine M.out.mono ?_
  rintro E w3 ⟨A, c, rfl, hE, hr, hf⟩
  have Y3 := Lib.hid (Y2.out.mv hr hf)
  have pH3 := hr.ptr
  have hbw3 := hr.lt
  have hle := Y2.out.le
  have C := closed_calls hr (n := w.heap.size + 1) (by omega) (sNew x e) (.slice A 1 c) (.slice none 0 0) (.slice none 0 0) ⟨(okS_of ⟨by show (0 : Int) ≤ 4; decide, by show (4 : Int) ≤ 10; decide⟩ rfl ⟨by show (0 : Int) ≤ 0; decide, by show (0 : Int) ≤ 3; decide⟩ hx (by simp)), er_mono hE hle (Nat.le_refl _), sr_nil _ _, sr_nil _ _⟩
  rw [← hR] at C
  have C := Lib.hid C
  clear hr hf M hR hE
  go_wp2_with fail
  refine C.out.mono ?_
  intro E w4 hP
  cases R with
  | bad j c =>
    obtain ⟨rfl, hf⟩ := hP
    have HF := Lib.hid hf
    clear hf C
    go_wp2_with fail
    exact ⟨rfl, rfl, Y3.out.fr.trans HF.out⟩
  | ok s m =>
    obtain ⟨rfl, hS, hr, hf⟩ := hP
    have SE := Lib.hid (Y3.out.mv hr hf)
    have HS := Lib.hid hS
    have hqE := SE.out.q.lt
    clear hf hr hS C
    obtain ⟨z0, z1, z2, z3, z4, z5, z6, z7, r0, r1, r2, r3, r4, r5, r6, r7, y0, y1, y2, y3, y4, y5, y6, y7⟩ := SE.out.q.facts
    go_wp2_with fail
    exact bodyPost_ret (v := S3.sV s (.slice A 1 c) (.slice none 0 0) (.slice none 0 0)) (by simp [results, Tryz.results51, go_sem, r0, r1, r2, r3, r4, r5, r6, r7]) rfl (SE.out.done HS.out)
set_option maxRecDepth 100000 in
set_option maxHeartbeats 2000000 in
theorem asg_set_bad {w : World} {l : TL} {v : Value} {b : RB} {i d : Nat} (h : Sd w l v b i d) (hll : l.length ≤ 1000000) (x : Bytes) (_hx : x.length ≤ 9223372036854775807) (hk : kwAt l i ≠ wNew) (hc : decide ((tkAt l i).1 = 1 ∧ sgAt l (i + 1) = [40]) = false) (j : Nat) (k : Int) (hp : parseR l i 0 = .bad j k) :
    Calls Tryz.prog 51 #[rp b, .string (B x)] w (PostS w l v b d (.bad j k)) := by
  have q : (kwAt l i == [110, 101, 119]) = false := beq_eq_false_iff_ne.2 hk
  have Y0 := Lib.hid (Stt.init h)
  have N := Lib.hid (rkeyw_calls Y0.out.rd)
  have pH := h.rd.ptr
  have hbw := h.rd.lt
  clear h hk
  generalize kwAt l i = t at *
  go_enter Tryz.func51, Tryz.ntmps51
  go_wp2_with fail
  refine (N.out).mono ?_
  rintro E w1 ⟨rfl, hb1⟩
  have Y1 := Lib.hid (Y0.out.bel hb1)
  have pH1 := Y1.out.rd.ptr
  have hbw1 := Y1.out.rd.lt
  clear N
  have K := callee_calls Y1.out.rd hll
  rw [hc] at K
  have K := Lib.hid K
  clear hc hll
  go_wp2_with fail
  refine (K.out).mono ?_
  rintro E w2 ⟨rfl, hb2⟩
  have Y2 := Lib.hid (Y1.out.bel hb2)
  have pH2 := Y2.out.rd.ptr
  have hbw2 := Y2.out.rd.lt
  clear K hb2 hb1
  go_wp2_with fail
  have M := Lib.hid (one_bad Y2.out.rd hp)
  clear hp
  refine (M.out).mono ?_
  rintro E wz ⟨rfl, hf⟩
  have HF := Lib.hid hf
  clear hf
  go_wp2_with fail
  exact ⟨rfl, rfl, Y2.out.fr.trans HF.out⟩
set_option maxRecDepth 100000 in
set_option maxHeartbeats 2000000 in
theorem asg_set_ok {w : World} {l : TL} {v : Value} {b : RB} {i d : Nat} (h : Sd w l v b i d) (hll : l.length ≤ 1000000) (x : Bytes) (hx : x.length ≤ 9223372036854775807) (hk : kwAt l i ≠ wNew) (hc : decide ((tkAt l i).1 = 1 ∧ sgAt l (i + 1) = [40]) = false) (e : Ex) (n : Nat) (hp : parseR l i 0 = .ok e n) :
    Calls Tryz.prog 51 #[rp b, .string (B x)] w (PostS w l v b d (endS l (sSet x e) n)) := by
  have q : (kwAt l i == [110, 101, 119]) = false := beq_eq_false_iff_ne.2 hk
  have Y0 := Lib.hid (Stt.init h)
  have N := Lib.hid (rkeyw_calls Y0.out.rd)
  have pH := h.rd.ptr
  have hbw := h.rd.lt
  clear h hk
  generalize kwAt l i = t at *
  obtain ⟨R, hR⟩ : ∃ R, R = endS l (sSet x e) n := ⟨_, rfl⟩
  rw [← hR]
  go_enter Tryz.func51, Tryz.ntmps51
  go_wp2_with fail
  refine (N.out).mono ?_
  rintro E w1 ⟨rfl, hb1⟩
  have Y1 := Lib.hid (Y0.out.bel hb1)
  have pH1 := Y1.out.rd.ptr
  have hbw1 := Y1.out.rd.lt
  clear N
  have K := callee_calls Y1.out.rd hll
  rw [hc] at K
  have K := Lib.hid K
  clear hc hll
  go_wp2_with fail
  refine (K.out).mono ?_
  rintro E w2 ⟨rfl, hb2⟩
  have Y2 := Lib.hid (Y1.out.bel hb2)
  have pH2 := Y2.out.rd.ptr
  have hbw2 := Y2.out.rd.lt
  clear K hb2 hb1
  go_wp2_with fail
  have M := Lib.hid (one_ok Y2.out.rd hp)
  clear hp
  refine M.out.mono ?_
  rintro E w3 ⟨A, c, rfl, hE, hr, hf⟩
  have Y3 := Lib.hid (Y2.out.mv hr hf)
  have pH3 := hr.ptr
  have hbw3 := hr.lt
  have hle := Y2.out.le
  have C := closed_calls hr (n := w.heap.size + 1) (by omega) (sSet x e) (.slice A 1 c) (.slice none 0 0) (.slice none 0 0) ⟨(okS_of ⟨by show (0 : Int) ≤ 2; decide, by show (2 : Int) ≤ 10; decide⟩ rfl ⟨by show (0 : Int) ≤ 0; decide, by show (0 : Int) ≤ 3; decide⟩ hx (by simp)), er_mono hE hle (Nat.le_refl _), sr_nil _ _, sr_nil _ _⟩
  rw [← hR] at C
  have C := Lib.hid C
  clear hr hf M hR hE
  go_wp2_with fail
  refine C.out.mono ?_
  intro E w4 hP
  cases R with
  | bad j c =>
    obtain ⟨rfl, hf⟩ := hP
    have HF := Lib.hid hf
    clear hf C
    go_wp2_with fail
    exact ⟨rfl, rfl, Y3.out.fr.trans HF.out⟩
  | ok s m =>
    obtain ⟨rfl, hS, hr, hf⟩ := hP
    have SE := Lib.hid (Y3.out.mv hr hf)
    have HS := Lib.hid hS
    have hqE := SE.out.q.lt
    clear hf hr hS C
    obtain ⟨z0, z1, z2, z3, z4, z5, z6, z7, r0, r1, r2, r3, r4, r5, r6, r7, y0, y1, y2, y3, y4, y5, y6, y7⟩ := SE.out.q.facts
    go_wp2_with fail
    exact bodyPost_ret (v := S3.sV s (.slice A 1 c) (.slice none 0 0) (.slice none 0 0)) (by simp [results, Tryz.results51, go_sem, r0, r1, r2, r3, r4, r5, r6, r7]) rfl (SE.out.done HS.out)
set_option maxRecDepth 100000 in
set_option maxHeartbeats 2000000 in
theorem asg_call_no {w : World} {l : TL} {v : Value} {b : RB} {i d : Nat} (h : Sd w l v b i d) (hll : l.length ≤ 1000000) (x : Bytes) (_hx : x.length ≤ 9223372036854775807) (hk : kwAt l i ≠ wNew) (hc : decide ((tkAt l i).1 = 1 ∧ sgAt l (i + 1) = [40]) = true) (hn : nmTok (tkAt l i) = false) :
    Calls Tryz.prog 51 #[rp b, .string (B x)] w (PostS w l v b d (.bad i 7)) := by
  have q : (kwAt l i == [110, 101, 119]) = false := beq_eq_false_iff_ne.2 hk
  have Y0 := Lib.hid (Stt.init h)
  have N := Lib.hid (rkeyw_calls Y0.out.rd)
  have pH := h.rd.ptr
  have hbw := h.rd.lt
  clear h hk
  generalize kwAt l i = t at *
  go_enter Tryz.func51, Tryz.ntmps51
  go_wp2_with fail
  refine (N.out).mono ?_
  rintro E w1 ⟨rfl, hb1⟩
  have Y1 := Lib.hid (Y0.out.bel hb1)
  have pH1 := Y1.out.rd.ptr
  have hbw1 := Y1.out.rd.lt
  clear N
  have K := callee_calls Y1.out.rd hll
  rw [hc] at K
  have K := Lib.hid K
  clear hc hll
  go_wp2_with fail
  refine (K.out).mono ?_
  rintro E w2 ⟨rfl, hb2⟩
  have Y2 := Lib.hid (Y1.out.bel hb2)
  have pH2 := Y2.out.rd.ptr
  have hbw2 := Y2.out.rd.lt
  clear K hb2 hb1
  go_wp2_with fail
  have M := Lib.hid (rname_no Y2.out.rd hn)
  clear hn
  refine (M.out).mono ?_
  rintro E wz ⟨rfl, hf⟩
  have HF := Lib.hid hf
  clear hf
  go_wp2_with fail
  exact ⟨rfl, rfl, Y2.out.fr.trans HF.out⟩
set_option maxRecDepth 100000 in
set_option maxHeartbeats 2000000 in
theorem asg_call_bad {w : World} {l : TL} {v : Value} {b : RB} {i d : Nat} (h : Sd w l v b i d) (hll : l.length ≤ 1000000) (x : Bytes) (_hx : x.length ≤ 9223372036854775807) (hk : kwAt l i ≠ wNew) (hc : decide ((tkAt l i).1 = 1 ∧ sgAt l (i + 1) = [40]) = true) (hn : nmTok (tkAt l i) = true) (j : Nat) (k : Int) (hp : listR l (i + 1) 0 = .bad j k) :
    Calls Tryz.prog 51 #[rp b, .string (B x)] w (PostS w l v b d (.bad j k)) := by
  have HLL := Lib.hid hll
  have M := Lib.hid (fun W (hW : Rd W l v b i d) => rname_yes hW hn)
  have hx2 := h.rd.text i
  clear hn
  have q : (kwAt l i == [110, 101, 119]) = false := beq_eq_false_iff_ne.2 hk
  have Y0 := Lib.hid (Stt.init h)
  have N := Lib.hid (rkeyw_calls Y0.out.rd)
  have pH := h.rd.ptr
  have hbw := h.rd.lt
  clear h hk
  generalize kwAt l i = t at *
  go_enter Tryz.func51, Tryz.ntmps51
  go_wp2_with fail
  refine (N.out).mono ?_
  rintro E w1 ⟨rfl, hb1⟩
  have Y1 := Lib.hid (Y0.out.bel hb1)
  have pH1 := Y1.out.rd.ptr
  have hbw1 := Y1.out.rd.lt
  clear N
  have K := callee_calls Y1.out.rd hll
  rw [hc] at K
  have K := Lib.hid K
  clear hc hll
  go_wp2_with fail
  refine (K.out).mono ?_
  rintro E w2 ⟨rfl, hb2⟩
  have Y2 := Lib.hid (Y1.out.bel hb2)
  have pH2 := Y2.out.rd.ptr
  have hbw2 := Y2.out.rd.lt
  clear K hb2 hb1
  go_wp2_with fail
  refine (M.out _ Y2.out.rd).mono ?_
  rintro E w3 ⟨rfl, hr, hf⟩
  have Y3 := Lib.hid (Y2.out.mv hr hf)
  have pH3 := Y3.out.rd.ptr
  have hbw3 := Y3.out.rd.lt
  clear hr hf
  clear M
  have M := Lib.hid (args_bad Y3.out.rd HLL.out hp)
  clear hp
  go_wp2_with fail
  refine (M.out).mono ?_
  rintro E wz ⟨rfl, hf⟩
  have HF := Lib.hid hf
  clear hf
  go_wp2_with fail
  exact ⟨rfl, rfl, Y3.out.fr.trans HF.out⟩
set_option maxRecDepth 100000 in
set_option maxHeartbeats 2000000 in
theorem asg_call_ok {w : World} {l : TL} {v : Value} {b : RB} {i d : Nat} (h : Sd w l v b i d) (hll : l.length ≤ 1000000) (x : Bytes) (hx : x.length ≤ 9223372036854775807) (hk : kwAt l i ≠ wNew) (hc : decide ((tkAt l i).1 = 1 ∧ sgAt l (i + 1) = [40]) = true) (hn : nmTok (tkAt l i) = true) (es : List Ex) (n : Nat) (hp : listR l (i + 1) 0 = .ok es n) :
    Calls Tryz.prog 51 #[rp b, .string (B x)] w (PostS w l v b d (endS l (sCall x (tkAt l i).2 es) n)) := by
  have HLL := Lib.hid hll
  have M := Lib.hid (fun W (hW : Rd W l v b i d) => rname_yes hW hn)
  have hx2 := h.rd.text i
  clear hn
  have q : (kwAt l i == [110, 101, 119]) = false := beq_eq_false_iff_ne.2 hk
  have Y0 := Lib.hid (Stt.init h)
  have N := Lib.hid (rkeyw_calls Y0.out.rd)
  have pH := h.rd.ptr
  have hbw := h.rd.lt
  clear h hk
  generalize kwAt l i = t at *
  obtain ⟨R, hR⟩ : ∃ R, R = endS l (sCall x (tkAt l i).2 es) n := ⟨_, rfl⟩
  rw [← hR]
  go_enter Tryz.func51, Tryz.ntmps51
  go_wp2_with fail
  refine (N.out).mono ?_
  rintro E w1 ⟨rfl, hb1⟩
  have Y1 := Lib.hid (Y0.out.bel hb1)
  have pH1 := Y1.out.rd.ptr
  have hbw1 := Y1.out.rd.lt
  clear N
  have K := callee_calls Y1.out.rd hll
  rw [hc] at K
  have K := Lib.hid K
  clear hc hll
  go_wp2_with fail
  refine (K.out).mono ?_
  rintro E w2 ⟨rfl, hb2⟩
  have Y2 := Lib.hid (Y1.out.bel hb2)
  have pH2 := Y2.out.rd.ptr
  have hbw2 := Y2.out.rd.lt
  clear K hb2 hb1
  go_wp2_with fail
  refine (M.out _ Y2.out.rd).mono ?_
  rintro E w3 ⟨rfl, hr, hf⟩
  have Y3 := Lib.hid (Y2.out.mv hr hf)
  have pH3 := Y3.out.rd.ptr
  have hbw3 := Y3.out.rd.lt
  clear hr hf
  clear M
  have M := Lib.hid (args_ok Y3.out.rd HLL.out hp)
  clear hp
  generalize (tkAt l i).2 = y at *
  go_wp2_with fail
  refine M.out.mono ?_
  rintro E w4 ⟨A, c, rfl, hE, hr, hf⟩
  have Y4 := Lib.hid (Y3.out.mv hr hf)
  have pH4 := hr.ptr
  have hbw4 := hr.lt
  have hle := Y3.out.le
  have C := closed_calls hr (n := w.heap.size + 1) (by omega) (sCall x y es) (.slice A es.length c) (.slice none 0 0) (.slice none 0 0) ⟨(okS_of ⟨by show (0 : Int) ≤ 7; decide, by show (7 : Int) ≤ 10; decide⟩ rfl ⟨by show (0 : Int) ≤ 0; decide, by show (0 : Int) ≤ 3; decide⟩ hx hx2), er_mono hE hle (Nat.le_refl _), sr_nil _ _, sr_nil _ _⟩
  rw [← hR] at C
  have C := Lib.hid C
  clear hr hf M hR hE
  go_wp2_with fail
  refine C.out.mono ?_
  intro E w5 hP
  cases R with
  | bad j c =>
    obtain ⟨rfl, hf⟩ := hP
    have HF := Lib.hid hf
    clear hf C
    go_wp2_with fail
    exact ⟨rfl, rfl, Y4.out.fr.trans HF.out⟩
  | ok s m =>
    obtain ⟨rfl, hS, hr, hf⟩ := hP
    have SE := Lib.hid (Y4.out.mv hr hf)
    have HS := Lib.hid hS
    have hqE := SE.out.q.lt
    clear hf hr hS C
    obtain ⟨z0, z1, z2, z3, z4, z5, z6, z7, r0, r1, r2, r3, r4, r5, r6, r7, y0, y1, y2, y3, y4, y5, y6, y7⟩ := SE.out.q.facts
    go_wp2_with fail
    exact bodyPost_ret (v := S3.sV s (.slice A es.length c) (.slice none 0 0) (.slice none 0 0)) (by simp [results, Tryz.results51, go_sem, r0, r1, r2, r3, r4, r5, r6, r7]) rfl (SE.out.done HS.out)
set_option maxRecDepth 100000 in
set_option maxHeartbeats 2000000 in
theorem asg_calls {w : World} {l : TL} {v : Value} {b : RB} {i d : Nat} (h : Sd w l v b i d) (hll : l.length ≤ 1000000) (x : Bytes) (hx : x.length ≤ 9223372036854775807) :
    Calls Tryz.prog 51 #[rp b, .string (B x)] w (PostS w l v b d (asgS l x i)) := by
  unfold asgS
  by_cases hk : kwAt l i = wNew
  · rw [if_pos hk]
    unfold valS
    cases hp : parseR l (i + 1) 0 with
    | bad j k => exact asg_new_bad h x hx hk j k hp
    | ok e n => exact asg_new_ok h x hx hk e n hp
  · rw [if_neg hk]
    by_cases hc : (tkAt l i).1 = 1 ∧ sgAt l (i + 1) = [40]
    · rw [if_pos hc]
      cases hn : nmTok (tkAt l i) with
      | false => exact asg_call_no h hll x hx hk (decide_eq_true hc) hn
      | true =>
        rw [if_pos rfl]
        unfold argS
        cases hp : listR l (i + 1) 0 with
        | bad j k => exact asg_call_bad h hll x hx hk (decide_eq_true hc) hn j k hp
        | ok es n => exact asg_call_ok h hll x hx hk (decide_eq_true hc) hn es n hp
    · rw [if_neg hc]
      unfold valS
      cases hp : parseR l i 0 with
      | bad j k => exact asg_set_bad h hll x hx hk (decide_eq_false hc) j k hp
      | ok e n => exact asg_set_ok h hll x hx hk (decide_eq_false hc) e n hp
end Go.Proofs.YtipepljmfgjbpaaGreatDoor.E6
