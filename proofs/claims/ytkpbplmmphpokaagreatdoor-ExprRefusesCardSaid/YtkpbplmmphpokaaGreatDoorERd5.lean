/-
  climb: its contract out of those of operand and of itself further on; all parts by induction.
-/
import Derived.Test.YtkpbplmmphpokaaGreatDoorERd4
namespace Go.Proofs.YtkpbplmmphpokaaGreatDoor.E5
open Go Go.RowKit Go.Proofs.YtkpbplmmphpokaaGreatDoor

/-- Blocks from n on, below m, but q. -/
abbrev Rx (q n m : Nat) : Nat → Prop := fun x => n ≤ x ∧ x < m ∧ x ≠ q
theorem er_two' {w : World} {R R' : Nat → Prop} {a b : Ex} {va vb : Value} (ha : S3.OkE a) (hb : S3.OkE b) (hR : ∀ x, R x → R' x ∧ x < w.heap.size) (hn : R' w.heap.size) (h1 : S3.ER w R a.args va) (h2 : S3.ER w R b.args vb) :
    S3.ER (w.alloc (eO2 a va b vb)) R' [a, b] (.slice (some ⟨w.heap.size, 0, none⟩) 2 2) := by
  have k := fun (i : Nat) (u : Value) (h : (#[.int .i64 a.kind, .int .i64 a.op, .int .i64 a.num, .string (B a.name), va, .int .i64 b.kind, .int .i64 b.op, .int .i64 b.num, .string (B b.name), vb] : Array Value)[i]? = some u) => S3.newCell w _ 29 i u h
  refine .mk [a, b] (some ⟨w.heap.size, 0, none⟩) 2 (fun i => if i = 0 then va else vb) (by simp) (fun i e he => ?_) (fun i e he => ?_)
  · match i, he with
    | 0, he => cases he; exact ⟨_, 0, rfl, hn, ha, ⟨k 0 _ rfl, k 1 _ rfl, k 2 _ rfl, k 3 _ rfl, k 4 _ rfl⟩⟩
    | 1, he => cases he; exact ⟨_, 0, rfl, hn, hb, ⟨k 5 _ rfl, k 6 _ rfl, k 7 _ rfl, k 8 _ rfl, k 9 _ rfl⟩⟩
    | i + 2, he => simp at he
  · match i, he with
    | 0, he => cases he; exact h1.keep (fun x hx => (hR x hx).1) fun x i hx => (S3.bal w _).cell (hR x hx).2
    | 1, he => cases he; exact h2.keep (fun x hx => (hR x hx).1) fun x i hx => (S3.bal w _).cell (hR x hx).2
    | i + 2, he => simp at he
theorem put5_row {w : World} {q : Nat} (h : R5 w q) (a0 a1 a2 a3 a4 : Value) : (put5 w q a0 a1 a2 a3 a4).heap[q]? = some (.cells #[a0, a1, a2, a3, a4] 29 (0, 0)) := by
  obtain ⟨x0, x1, x2, x3, x4, h⟩ := h
  unfold put5
  simp only [World.setCell, Array.getElem?_modify, if_true, h]
  rfl
/-- Where the reader stands. -/
def atOf (b : RB) (w : World) : Nat := match w.cell? ⟨b.c, 1, none⟩ with
  | some x => (intOf x).toNat
  | none => 0
theorem atOf_is {w : World} {l : TL} {v : Value} {b : RB} {i d : Nat} (h : Rd w l v b i d) : atOf b w = i := by
  unfold atOf; rw [h.cu.cells.2.1]; simp [intOf]
/-- What has been read after some operators: e, in block q. -/
structure CI (w : World) (l : TL) (v : Value) (b : RB) (d q : Nat) (r : Res) (m : Int) (e : Ex) (A : Option Addr) (k c n : Nat) (wr : World) : Prop where
  rd : Rd wr l v b n d
  one : 1 ≤ n
  ok : S3.OkE e
  row : wr.heap[q]? = some (.cells #[.int .i64 e.kind, .int .i64 e.op, .int .i64 e.num, .string (S3.B e.name), .slice A k c] 29 (0, 0))
  er : S3.ER wr (Rx q (w.heap.size + 1) wr.heap.size) e.args (.slice A k c)
  res : R5 wr w.heap.size
  fr : Fr b w wr
  lop : r = lopR l e n d m
theorem row5_facts {w : World} {q : Nat} {a0 a1 a2 a3 a4 : Value} (h : w.heap[q]? = some (.cells #[a0, a1, a2, a3, a4] 29 (0, 0))) : w.cell? ⟨q, 0, none⟩ = some a0 ∧ w.cell? ⟨q, 1, none⟩ = some a1 ∧ w.cell? ⟨q, 2, none⟩ = some a2 ∧ w.cell? ⟨q, 3, none⟩ = some a3 ∧ w.cell? ⟨q, 4, none⟩ = some a4 :=
  ⟨(cell_of_row _ _ 0 _ _ _ h).trans rfl, (cell_of_row _ _ 1 _ _ _ h).trans rfl, (cell_of_row _ _ 2 _ _ _ h).trans rfl, (cell_of_row _ _ 3 _ _ _ h).trans rfl, (cell_of_row _ _ 4 _ _ _ h).trans rfl⟩
theorem row5_lt {w : World} {q : Nat} {o : Obj} (h : w.heap[q]? = some o) : q < w.heap.size := by
  rcases Nat.lt_or_ge q w.heap.size with h1 | h1
  · exact h1
  · rw [Array.getElem?_eq_none h1] at h; cases h

theorem CI.bel {w : World} {l : TL} {v : Value} {b : RB} {d q : Nat} {r : Res} {m : Int} {e : Ex} {A : Option Addr} {k c n : Nat} {wr wr' : World} (h : CI w l v b d q r m e A k c n wr) (hb : Below wr.heap.size wr wr') : CI w l v b d q r m e A k c n wr' :=
  ⟨h.rd.bel hb, h.one, h.ok, (hb.block q (row5_lt h.row)).trans h.row, h.er.keep (fun _ hx => ⟨hx.1, Nat.lt_of_lt_of_le hx.2.1 hb.size, hx.2.2⟩) (fun _ _ hx => hb.cell hx.2.1), h.res.bel hb, h.fr.trans (.of hb), h.lop⟩

theorem CI.mv {w : World} {l : TL} {v : Value} {b : RB} {d q : Nat} {r : Res} {m : Int} {e : Ex} {A : Option Addr} {k c n : Nat} {wr wr' : World} (h : CI w l v b d q r m e A k c n wr) (hbw : b < w.heap.size) (hq : w.heap.size + 1 ≤ q) (hf : Fr b wr wr') :
    wr'.heap[q]? = some (.cells #[.int .i64 e.kind, .int .i64 e.op, .int .i64 e.num, .string (S3.B e.name), .slice A k c] 29 (0, 0)) ∧ S3.ER wr' (Rx q (w.heap.size + 1) wr'.heap.size) e.args (.slice A k c) ∧ R5 wr' w.heap.size ∧ Fr b w wr' :=
  ⟨(hf.block q (row5_lt h.row) (by omega)).trans h.row, h.er.keep (fun _ hx => ⟨hx.1, Nat.lt_of_lt_of_le hx.2.1 hf.size, hx.2.2⟩) (fun _ _ hx => hf.cell hx.2.1 (by have := hx.1; omega)), h.res.fr (by omega) hf, h.fr.trans hf⟩
theorem R5.put {w : World} {q k : Nat} (h : R5 w k) (hk : k ≠ q) (a0 a1 a2 a3 a4 : Value) : R5 (put5 w q a0 a1 a2 a3 a4) k := by
  obtain ⟨x0, x1, x2, x3, x4, h⟩ := h
  exact ⟨x0, x1, x2, x3, x4, (put5_heap w q a0 a1 a2 a3 a4 k hk).trans h⟩

theorem CI.next {w : World} {l : TL} {v : Value} {b : RB} {d q : Nat} {r : Res} {m : Int} {e : Ex} {A : Option Addr} {k c n : Nat} {wg : World} (hbw : b < w.heap.size) (hq : w.heap.size + 1 ≤ q) (rd : Rd wg l v b n d) (one : 1 ≤ n) (ok : S3.OkE e) (pg : R5 wg q)
    (er : S3.ER wg (Rx q (w.heap.size + 1) wg.heap.size) e.args (.slice A k c)) (res : R5 wg w.heap.size) (fr : Fr b w wg) (hl : r = lopR l e n d m) :
    CI w l v b d q r m e A k c n (put5 wg q (.int .i64 e.kind) (.int .i64 e.op) (.int .i64 e.num) (.string (S3.B e.name)) (.slice A k c)) := by
  have h1 := put5_rd rd (show b < q by omega) (.int .i64 e.kind) (.int .i64 e.op) (.int .i64 e.num) (.string (S3.B e.name)) (.slice A k c)
  have h2 := put5_row pg (.int .i64 e.kind) (.int .i64 e.op) (.int .i64 e.num) (.string (S3.B e.name)) (.slice A k c)
  have h3 := res.put (show w.heap.size ≠ q by omega) (.int .i64 e.kind) (.int .i64 e.op) (.int .i64 e.num) (.string (S3.B e.name)) (.slice A k c)
  have h4 := put5_fr fr (show w.heap.size ≤ q by omega) (.int .i64 e.kind) (.int .i64 e.op) (.int .i64 e.num) (.string (S3.B e.name)) (.slice A k c)
  have h5 := put5_size wg q (.int .i64 e.kind) (.int .i64 e.op) (.int .i64 e.num) (.string (S3.B e.name)) (.slice A k c)
  have h6 := put5_heap wg q (.int .i64 e.kind) (.int .i64 e.op) (.int .i64 e.num) (.string (S3.B e.name)) (.slice A k c)
  generalize put5 wg q (.int .i64 e.kind) (.int .i64 e.op) (.int .i64 e.num) (.string (S3.B e.name)) (.slice A k c) = wh at *
  exact ⟨h1, one, ok, h2, er.keep (fun y hy => ⟨hy.1, by rw [h5]; exact hy.2.1, hy.2.2⟩) (fun y _ hy => World.cell?_of_block (w := wg) (h6 y hy.2.2)), h3, h4, hl⟩

set_option maxRecDepth 100000 in
set_option maxHeartbeats 1000000 in
theorem rclimb_bad {w : World} {l : TL} {v : Value} {b : RB} {i d : Nat} (h : Rd w l v b i d) (m : Int) (j : Nat) (c : Int)
    (C : ∀ W, Rd W l v b i d → Calls Tryz.prog 149 #[rp b] W (Post W l v b d (.bad j c))) :
    Calls Tryz.prog 103 #[rp b, .int .i64 m] w (Post w l v b d (.bad j c)) := by
  have H := Lib.hid (fun o => h.al o)
  have pH := h.ptr
  have C := Lib.hid C
  clear h
  go_enter Tryz.func103, Tryz.ntmps103
  go_wp2_with fail
  refine (C.out _ (H.out _)).mono ?_
  rintro E w1 ⟨rfl, hf⟩
  have HF := Lib.hid hf
  clear hf
  go_wp2_with fail
  exact ⟨rfl, rfl, (Fr.of (S3.bal w _)).trans HF.out⟩

set_option maxRecDepth 100000 in
set_option maxHeartbeats 4000000 in
theorem rclimb_ok {w : World} {l : TL} {v : Value} {b : RB} {i d : Nat} (h : Rd w l v b i d) (m : Int) (hm : 1 ≤ m) (e0 : Ex) (n0 : Nat) (hn0 : i < n0) (r : Res) (hr : r = lopR l e0 n0 d m)
    (C : ∀ W, Rd W l v b i d → Calls Tryz.prog 149 #[rp b] W (Post W l v b d (.ok e0 n0)))
    (CB : ∀ j m', i < j → j ≤ l.length → 1 ≤ m' → m' ≤ 6 → ∀ W, Rd W l v b j d → Calls Tryz.prog 103 #[rp b, .int .i64 m'] W (Post W l v b d (binR l j d m'))) :
    Calls Tryz.prog 103 #[rp b, .int .i64 m] w (Post w l v b d r) := by
  have H := Lib.hid (fun o => h.al o)
  have pH := h.ptr
  have Q := Lib.hid (fun a0 a1 a2 a3 a4 => R5.new w a0 a1 a2 a3 a4)
  have hbw := h.lt
  have C := Lib.hid C
  have CB := Lib.hid CB
  have HR := Lib.hid hr
  clear h hr
  go_enter Tryz.func103, Tryz.ntmps103
  go_wp2_with fail
  refine (C.out _ (H.out _)).mono ?_
  rintro E w1 ⟨A0, k0, c0, rfl, ho, hE, hr, hf⟩
  have hz1 := hf.size
  rw [S3.sz1] at hz1
  have H1 := Lib.hid (show CI w l v b d w1.heap.size r m e0 A0 k0 c0 n0 (w1.alloc (S3.eO e0 (.slice A0 k0 c0))) from
    ⟨hr.al _, by omega, ho, heap_alloc_new w1 _, hE.keep (fun x hx => ⟨by have := hx.1; rw [S3.sz1] at this; exact this, by rw [S3.sz1]; have := hx.2; omega, by have := hx.2; omega⟩) (fun _ _ hx => (S3.bal w1 _).cell hx.2),
      ((Q.out _ _ _ _ _).fr (by omega) hf).bel (S3.bal w1 _), ((Fr.of (S3.bal w _)).trans hf).al _, HR.out⟩)
  clear ho hE hr hf C H Q HR
  generalize hq : w1.heap.size = q at *
  go_wp2_with fail
  generalize w1.alloc (S3.eO e0 (.slice A0 k0 c0)) = w2 at *
  go_loopw [6, 7] (fun _ _ wr => ∃ e A k c n, Hid (CI w l v b d q r m e A k c n wr) ∧ i < n) (fun _ _ wr => l.length - atOf b wr)
  case atStart => exact ⟨e0, A0, k0, c0, n0, H1, hn0⟩
  case round =>
    obtain ⟨e, A, k, c, n, HI, hin⟩ := hrel
    have pHI := HI.out.rd.ptr
    have HG := Lib.hid (show 1 ≤ n from HI.out.one)
    have hnle := HI.out.rd.hi
    by_cases hrk : (opB (sgAt l n)).2 < m
    · obtain rfl : r = .ok e n := HI.out.lop.trans (lopR_end l e n d m hrk)
      go_wp2_with fail
      refine (rsign_calls HI.out.rd).mono ?_
      rintro E wa ⟨rfl, hb⟩
      have HIa := Lib.hid (HI.out.bel hb)
      have pHIa := HIa.out.rd.ptr
      clear hb HI
      go_wp2_with fail
      refine (op_calls (sgAt l n) _ HIa.out.rd.g.o).mono ?_
      rintro E wb ⟨rfl, hb⟩
      have HIb := Lib.hid (HIa.out.bel hb)
      have pHIb := HIb.out.rd.ptr
      clear hb HIa
      generalize (opB (sgAt l n)).2 = rk at *
      generalize (opB (sgAt l n)).1 = op at *
      obtain ⟨e0, e1, e2, e3, e4⟩ := row5_facts HIb.out.row
      obtain ⟨z0, z1, z2, z3, z4, r0, r1, r2, r3, r4, y0, y1, y2, y3, y4⟩ := HIb.out.res.facts
      have hres := HIb.out.res.lt
      go_wp2_with fail
      refine bodyPost_ret (v := S3.eV e (.slice A k c)) (by simp [results, Tryz.results103, go_sem, r0, r1, r2, r3, r4]) rfl ⟨A, k, c, rfl, HIb.out.ok, ?_, put5_rd HIb.out.rd hbw _ _ _ _ _, put5_fr HIb.out.fr (Nat.le_refl _) _ _ _ _ _⟩
      exact HIb.out.er.keep (fun x hx => ⟨by have := hx.1; omega, by rw [put5_size]; exact hx.2.1⟩) (fun x _ hx => World.cell?_of_block (w := wb) (put5_heap wb w.heap.size _ _ _ _ _ x (by have := hx.1; omega)))
    · have hnl := op_lt hm hrk
      have hlop := HI.out.lop.trans (lopR_eq l e n d m HI.out.one hm hrk)
      have hrank : 1 ≤ (opB (sgAt l n)).2 ∧ (opB (sgAt l n)).2 ≤ 5 ∧ 1 ≤ (opB (sgAt l n)).1 ∧ (opB (sgAt l n)).1 ≤ 13 := by
        rcases opB_rank (sgAt l n) with h1 | h1
        · rw [h1] at hrk; simp only at hrk; omega
        · exact h1
      have CBn := CB.out (n + 1) ((opB (sgAt l n)).2 + 1) (by omega) hnl (by omega) (by omega)
      have hwin := binR_within l (n + 1) d ((opB (sgAt l n)).2 + 1) (by omega) hnl
      cases hB : binR l (n + 1) d ((opB (sgAt l n)).2 + 1) with
      | bad j c' =>
        rw [hB] at hlop CBn
        obtain rfl : r = .bad j c' := hlop
        have CBn := Lib.hid CBn
        clear hB hwin
        go_wp2_with fail
        refine (rsign_calls HI.out.rd).mono ?_
        rintro E wa ⟨rfl, hb⟩
        have HIa := Lib.hid (HI.out.bel hb)
        have pHIa := HIa.out.rd.ptr
        clear hb HI
        go_wp2_with fail
        refine (op_calls (sgAt l n) _ HIa.out.rd.g.o).mono ?_
        rintro E wb ⟨rfl, hb⟩
        have HIb := Lib.hid (HIa.out.bel hb)
        have pHIb := HIb.out.rd.ptr
        clear hb HIa
        generalize (opB (sgAt l n)).2 = rk at *
        generalize (opB (sgAt l n)).1 = op at *
        obtain ⟨p0, c0, c1, c2, f1, f2⟩ := HIb.out.rd.cells
        have hle := HIb.out.rd.len
        go_wp2_with fail
        have R1 := Lib.hid (HIb.out.rd.inc1 hnl)
        have pR1 := R1.out.ptr
        have F1 := Lib.hid ((Fr.refl b wb).setA (.int .i64 ((n : Int) + 1)))
        generalize wb.setCell ⟨b.c, 1, none⟩ (.int .i64 ((n : Int) + 1)) = wc at *
        clear p0 c0 c1 c2 f1 f2
        refine (CBn.out _ R1.out).mono ?_
        rintro E wd ⟨rfl, hf⟩
        have HF := Lib.hid ((HIb.out.fr.trans F1.out).trans hf)
        clear hf
        go_wp2_with fail
        exact ⟨rfl, rfl, HF.out⟩
      | ok x n1 =>
        rw [hB] at hlop CBn hwin
        simp only [Res.within] at hwin
        have CBn := Lib.hid CBn
        have hok5 := Lib.hid (okE_op (k := 5) (op := (opB (sgAt l n)).1) (s := []) (args := [e, x]) (by decide) (okI_small (by omega) (by omega)) (by simp))
        by_cases hx : S3.exB ⟨5, (opB (sgAt l n)).1, 0, [], [e, x]⟩ = true
        · have HLop := Lib.hid (show r = lopR l ⟨5, (opB (sgAt l n)).1, 0, [], [e, x]⟩ n1 d m by rw [hlop]; simp only [Res.bind, madeR]; rw [if_pos hx])
          have HM := Lib.hid (atOf_is HI.out.rd)
          clear hB hlop
          go_wp2_with fail
          refine (rsign_calls HI.out.rd).mono ?_
          rintro E wa ⟨rfl, hb⟩
          have HIa := Lib.hid (HI.out.bel hb)
          have pHIa := HIa.out.rd.ptr
          clear hb HI
          go_wp2_with fail
          refine (op_calls (sgAt l n) _ HIa.out.rd.g.o).mono ?_
          rintro E wb ⟨rfl, hb⟩
          have HIb := Lib.hid (HIa.out.bel hb)
          have pHIb := HIb.out.rd.ptr
          clear hb HIa
          generalize (opB (sgAt l n)).2 = rk at *
          generalize (opB (sgAt l n)).1 = op at *
          obtain ⟨p0, c0, c1, c2, f1, f2⟩ := HIb.out.rd.cells
          have hle := HIb.out.rd.len
          go_wp2_with fail
          have R1 := Lib.hid (HIb.out.rd.inc1 hnl)
          have pR1 := R1.out.ptr
          have F1 := Lib.hid ((Fr.refl b wb).setA (.int .i64 ((n : Int) + 1)))
          generalize wb.setCell ⟨b.c, 1, none⟩ (.int .i64 ((n : Int) + 1)) = wc at *
          clear p0 c0 c1 c2 f1 f2
          refine (CBn.out _ R1.out).mono ?_
          rintro E wd ⟨A1, k1, c1, rfl, ho1, hE1, hR1, hf⟩
          obtain ⟨hrow, her, hres, hfr⟩ := HIb.out.mv hbw hz1 (F1.out.trans hf)
          have hqb := row5_lt HIb.out.row
          have hzc := F1.out.size
          have hqd := row5_lt hrow
          have RX := Lib.hid ((hR1.al (S3.eO x (.slice A1 k1 c1))).al (eO2 e (.slice A k c) x (.slice A1 k1 c1)))
          have pRX := RX.out.ptr
          have FX := Lib.hid ((hfr.al (S3.eO x (.slice A1 k1 c1))).al (eO2 e (.slice A k c) x (.slice A1 k1 c1)))
          have EX := er_two' (w := wd.alloc (S3.eO x (.slice A1 k1 c1))) (R := Rx q (w.heap.size + 1) wd.heap.size) (R' := Rx q (w.heap.size + 1) (wd.heap.size + 1 + 1)) HIb.out.ok ho1 (fun y hy => ⟨⟨hy.1, by have := hy.2.1; omega, hy.2.2⟩, by rw [S3.sz1]; have := hy.2.1; omega⟩) ⟨by rw [S3.sz1]; omega, by rw [S3.sz1]; omega, by rw [S3.sz1]; omega⟩ (her.keep (fun _ hy => hy) (fun _ _ hy => (S3.bal wd _).cell hy.2.1)) (hE1.keep (fun y hy => ⟨by have := hy.1; omega, hy.2, by have := hy.1; omega⟩) (fun _ _ hy => (S3.bal wd _).cell hy.2))
          rw [S3.sz1] at EX
          have EX := Lib.hid EX
          have hszX : ((wd.alloc (S3.eO x (.slice A1 k1 c1))).alloc (eO2 e (.slice A k c) x (.slice A1 k1 c1))).heap.size = wd.heap.size + 1 + 1 := by rw [S3.sz1, S3.sz1]
          have QX := Lib.hid ((hres.bel (S3.bal wd (S3.eO x (.slice A1 k1 c1)))).bel (S3.bal _ (eO2 e (.slice A k c) x (.slice A1 k1 c1))))
          have PX := Lib.hid (((show R5 wd q from ⟨_, _, _, _, _, hrow⟩).bel (S3.bal wd (S3.eO x (.slice A1 k1 c1)))).bel (S3.bal _ (eO2 e (.slice A k c) x (.slice A1 k1 c1))))
          obtain ⟨e0, e1, e2, e3, e4⟩ := row5_facts hrow
          clear hrow her hres hfr hE1 hR1 hf
          go_wp2_with fail
          refine (whole_yes RX.out ⟨5, op, 0, [], [e, x]⟩ hok5.out _ 2 2 (EX.out.keep (fun y hy => by have := hy.2.1; rw [hszX]; exact this) fun _ _ _ => rfl) hx).mono ?_
          rintro E wg ⟨rfl, hb⟩
          have hzg := hb.size
          rw [hszX] at hzg
          have PG := PX.out.bel hb
          have EG := EX.out.keep (R' := Rx q (w.heap.size + 1) wg.heap.size) (fun y hy => ⟨hy.1, Nat.lt_of_lt_of_le hy.2.1 hzg, hy.2.2⟩) (fun y j hy => hb.cell (p := ⟨y, j, none⟩) (by rw [hszX]; exact hy.2.1))
          have HN := Lib.hid (CI.next (r := r) (m := m) (e := ⟨5, op, 0, [], [e, x]⟩) hbw hz1 (RX.out.bel hb) (show 1 ≤ n1 by omega) hok5.out PG EG (QX.out.bel hb) (FX.out.trans (.of hb)) HLop.out)
          dsimp only [put5] at HN
          have HA := Lib.hid (atOf_is HN.out.rd)
          have hn1 := HN.out.rd.hi
          obtain ⟨z0, z1, z2, z3, z4, r0, r1, r2, r3, r4, y0, y1, y2, y3, y4⟩ := PG.facts
          clear hb PG EG
          go_wp2_with fail
          go_roundw
          case rel => exact ⟨_, _, _, _, _, HN, by omega⟩
          case measure => rw [HA.out, HM.out]; omega
        · simp only [Bool.not_eq_true] at hx
          obtain rfl : r = .bad (n1 - 1) 8 := by rw [hlop]; simp only [Res.bind, madeR]; rw [if_neg (by rw [hx]; decide)]
          clear hB
          go_wp2_with fail
          refine (rsign_calls HI.out.rd).mono ?_
          rintro E wa ⟨rfl, hb⟩
          have HIa := Lib.hid (HI.out.bel hb)
          have pHIa := HIa.out.rd.ptr
          clear hb HI
          go_wp2_with fail
          refine (op_calls (sgAt l n) _ HIa.out.rd.g.o).mono ?_
          rintro E wb ⟨rfl, hb⟩
          have HIb := Lib.hid (HIa.out.bel hb)
          have pHIb := HIb.out.rd.ptr
          clear hb HIa
          generalize (opB (sgAt l n)).2 = rk at *
          generalize (opB (sgAt l n)).1 = op at *
          obtain ⟨p0, c0, c1, c2, f1, f2⟩ := HIb.out.rd.cells
          have hle := HIb.out.rd.len
          go_wp2_with fail
          have R1 := Lib.hid (HIb.out.rd.inc1 hnl)
          have pR1 := R1.out.ptr
          have F1 := Lib.hid ((Fr.refl b wb).setA (.int .i64 ((n : Int) + 1)))
          generalize wb.setCell ⟨b.c, 1, none⟩ (.int .i64 ((n : Int) + 1)) = wc at *
          clear p0 c0 c1 c2 f1 f2
          refine (CBn.out _ R1.out).mono ?_
          rintro E wd ⟨A1, k1, c1, rfl, ho1, hE1, hR1, hf⟩
          obtain ⟨hrow, her, hres, hfr⟩ := HIb.out.mv hbw hz1 (F1.out.trans hf)
          have hqb := row5_lt HIb.out.row
          have hzc := F1.out.size
          have hqd := row5_lt hrow
          have RX := Lib.hid ((hR1.al (S3.eO x (.slice A1 k1 c1))).al (eO2 e (.slice A k c) x (.slice A1 k1 c1)))
          have pRX := RX.out.ptr
          have FX := Lib.hid ((hfr.al (S3.eO x (.slice A1 k1 c1))).al (eO2 e (.slice A k c) x (.slice A1 k1 c1)))
          have EX := er_two' (w := wd.alloc (S3.eO x (.slice A1 k1 c1))) (R := Rx q (w.heap.size + 1) wd.heap.size) (R' := Rx q (w.heap.size + 1) (wd.heap.size + 1 + 1)) HIb.out.ok ho1 (fun y hy => ⟨⟨hy.1, by have := hy.2.1; omega, hy.2.2⟩, by rw [S3.sz1]; have := hy.2.1; omega⟩) ⟨by rw [S3.sz1]; omega, by rw [S3.sz1]; omega, by rw [S3.sz1]; omega⟩ (her.keep (fun _ hy => hy) (fun _ _ hy => (S3.bal wd _).cell hy.2.1)) (hE1.keep (fun y hy => ⟨by have := hy.1; omega, hy.2, by have := hy.1; omega⟩) (fun _ _ hy => (S3.bal wd _).cell hy.2))
          rw [S3.sz1] at EX
          have EX := Lib.hid EX
          have hszX : ((wd.alloc (S3.eO x (.slice A1 k1 c1))).alloc (eO2 e (.slice A k c) x (.slice A1 k1 c1))).heap.size = wd.heap.size + 1 + 1 := by rw [S3.sz1, S3.sz1]
          have QX := Lib.hid ((hres.bel (S3.bal wd (S3.eO x (.slice A1 k1 c1)))).bel (S3.bal _ (eO2 e (.slice A k c) x (.slice A1 k1 c1))))
          have PX := Lib.hid (((show R5 wd q from ⟨_, _, _, _, _, hrow⟩).bel (S3.bal wd (S3.eO x (.slice A1 k1 c1)))).bel (S3.bal _ (eO2 e (.slice A k c) x (.slice A1 k1 c1))))
          obtain ⟨e0, e1, e2, e3, e4⟩ := row5_facts hrow
          clear hrow her hres hfr hE1 hR1 hf
          go_wp2_with fail
          refine (whole_no RX.out (by omega) ⟨5, op, 0, [], [e, x]⟩ hok5.out _ 2 2 (EX.out.keep (fun y hy => by have := hy.2.1; rw [hszX]; exact this) fun _ _ _ => rfl) hx).mono ?_
          rintro E wg ⟨rfl, hb⟩
          have HB := Lib.hid (FX.out.trans (Fr.of (b := b) hb))
          clear hb
          go_wp2_with fail
          exact ⟨rfl, rfl, HB.out⟩
end Go.Proofs.YtkpbplmmphpokaaGreatDoor.E5
