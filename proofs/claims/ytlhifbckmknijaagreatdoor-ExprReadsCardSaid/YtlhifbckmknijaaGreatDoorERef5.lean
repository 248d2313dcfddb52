/-
  The document's own reading of expressions: binary; all parts by induction; Parse: contracts.
  The document's own reading of expressions: all parts by induction; Parse: contracts.
  The document's own reading of lists of expressions: List: contract.
-/
import Derived.Test.YtlhifbckmknijaaGreatDoorERefX
import Derived.Test.YtlhifbckmknijaaGreatDoorERef3
import Derived.Test.YtlhifbckmknijaaGreatDoorERef4
import Derived.Test.YtlhifbckmknijaaGreatDoorERow
import Derived.Lib.AppendZeros
namespace Go.Proofs.YtlhifbckmknijaaGreatDoor.E5
open Go Go.RowKit Go.Proofs.YtlhifbckmknijaaGreatDoor

/-! ### errors are errors -/
def Res.cd : Res → Prop
  | .ok _ _ => True
  | .bad _ c => c ≠ 0
theorem cd_bind {r : Res} {f : Ex → Nat → Res} (h : r.cd) (hf : ∀ e n, (f e n).cd) : (r.bind f).cd := by
  cases r with
  | ok e n => exact hf e n
  | bad j c => exact h
theorem cd_made (e : Ex) (n : Nat) : (madeR e n).cd := by
  unfold madeR
  split
  · trivial
  · show (8 : Int) ≠ 0
    decide
theorem cd7 (j : Nat) : (Res.bad j 7).cd := by show (7 : Int) ≠ 0; decide
theorem cd8 (j : Nat) : (Res.bad j 8).cd := by show (8 : Int) ≠ 0; decide
theorem cd_num (l : TL) (i : Nat) : (numR l i).cd := by
  unfold numR
  split
  · trivial
  · exact cd7 _
theorem cd_len (l : TL) (i : Nat) : (lenR l i).cd := by
  unfold lenR
  repeat' split
  all_goals first | trivial | exact cd7 _
theorem cd_key (l : TL) (i : Nat) : (keyR l i).cd := by
  unfold keyR
  repeat' split
  all_goals first | trivial | exact cd_len _ _ | exact cd7 _
theorem cd_all (l : TL) : ∀ f, (∀ i d, (opd l f i d).cd) ∧ (∀ i d m, (bin l f i d m).cd) ∧ (∀ e i d m, (lop l f e i d m).cd) := by
  intro f
  induction f with
  | zero => exact ⟨fun i d => by rw [opd]; exact cd7 _, fun i d m => by rw [bin]; exact cd7 _, fun e i d m => by rw [lop]; exact cd7 _⟩
  | succ f ih =>
    obtain ⟨h1, h2, h3⟩ := ih
    refine ⟨fun i d => ?_, fun i d m => ?_, fun e i d m => ?_⟩
    · rw [opd]
      repeat' split
      all_goals first
        | exact cd_num _ _
        | exact cd_key _ _
        | exact cd7 _
        | exact cd8 _
        | trivial
        | exact cd_bind (h1 _ _) (fun e n => cd_made _ _)
        | (refine cd_bind (h2 _ _ _) (fun e n => ?_); split <;> first | exact cd_made _ _ | exact cd7 _ | trivial)
    · rw [bin]
      exact cd_bind (h1 _ _) fun e n => h3 _ _ _ _
    · rw [lop]
      split
      · trivial
      · exact cd_bind (h2 _ _ _) fun x n => cd_bind (cd_made _ _) fun y k => h3 _ _ _ _
theorem cd_bin (l : TL) (i d : Nat) (m : Int) : (binR l i d m).cd := (cd_all l _).2.1 i d m
theorem cd_opd (l : TL) (i d : Nat) : (opdR l i d).cd := (cd_all l _).1 i d
/-- What has been read after some operators: e, in block q. -/
structure BI (w : World) (l : TL) (v : Value) (d q : Nat) (r : Res) (m : Int) (e : Ex) (A : Option Addr) (k c n : Nat) (wr : World) : Prop where
  tok : TokL wr w.heap.size v l
  one : 1 ≤ n
  le : n ≤ l.length
  ok : S3.OkE e
  row : wr.heap[q]? = some (.cells #[.int .i64 e.kind, .int .i64 e.op, .int .i64 e.num, .string (S3.B e.name), .slice A k c] 29 (0, 0))
  er : S3.ER wr (Rx q (w.heap.size + 1) wr.heap.size) e.args (.slice A k c)
  res : R5 wr w.heap.size
  bel : Below w.heap.size w wr
  lop : r = lopR l e n d m
theorem BI.mv {w : World} {l : TL} {v : Value} {d q : Nat} {r : Res} {m : Int} {e : Ex} {A : Option Addr} {k c n : Nat} {wr wr' : World} (h : BI w l v d q r m e A k c n wr) (hb : Below wr.heap.size wr wr') : BI w l v d q r m e A k c n wr' :=
  ⟨h.tok.keep (Nat.le_refl _) (fun b i hx => hb.cell (p := ⟨b, i, none⟩) (Nat.lt_of_lt_of_le hx h.bel.size)), h.one, h.le, h.ok, (hb.block q (row5_lt h.row)).trans h.row, h.er.keep (fun _ hx => ⟨hx.1, Nat.lt_of_lt_of_le hx.2.1 hb.size, hx.2.2⟩) (fun _ _ hx => hb.cell hx.2.1), h.res.bel hb, after h.bel hb, h.lop⟩
theorem BI.tk {w : World} {l : TL} {v : Value} {d q : Nat} {r : Res} {m : Int} {e : Ex} {A : Option Addr} {k c n : Nat} {wr : World} (h : BI w l v d q r m e A k c n wr) : TokL wr wr.heap.size v l := h.tok.keep h.bel.size fun _ _ _ => rfl
theorem BI.next {w : World} {l : TL} {v : Value} {d q : Nat} {r : Res} {m : Int} {e : Ex} {A : Option Addr} {k c n : Nat} {wg : World} (hq : w.heap.size + 1 ≤ q) (tok : TokL wg w.heap.size v l) (one : 1 ≤ n) (le : n ≤ l.length) (ok : S3.OkE e) (pg : R5 wg q)
    (er : S3.ER wg (Rx q (w.heap.size + 1) wg.heap.size) e.args (.slice A k c)) (res : R5 wg w.heap.size) (bel : Below w.heap.size w wg) (hl : r = lopR l e n d m) :
    BI w l v d q r m e A k c n (put5 wg q (.int .i64 e.kind) (.int .i64 e.op) (.int .i64 e.num) (.string (S3.B e.name)) (.slice A k c)) := by
  have h2 := put5_row pg (.int .i64 e.kind) (.int .i64 e.op) (.int .i64 e.num) (.string (S3.B e.name)) (.slice A k c)
  have h3 := res.put (show w.heap.size ≠ q by omega) (.int .i64 e.kind) (.int .i64 e.op) (.int .i64 e.num) (.string (S3.B e.name)) (.slice A k c)
  have h4 := put5_below bel (show w.heap.size ≤ q by omega) (.int .i64 e.kind) (.int .i64 e.op) (.int .i64 e.num) (.string (S3.B e.name)) (.slice A k c)
  have h5 := put5_size wg q (.int .i64 e.kind) (.int .i64 e.op) (.int .i64 e.num) (.string (S3.B e.name)) (.slice A k c)
  have h6 := put5_heap wg q (.int .i64 e.kind) (.int .i64 e.op) (.int .i64 e.num) (.string (S3.B e.name)) (.slice A k c)
  generalize put5 wg q (.int .i64 e.kind) (.int .i64 e.op) (.int .i64 e.num) (.string (S3.B e.name)) (.slice A k c) = wh at *
  exact ⟨tok.keep (Nat.le_refl _) (fun b i hx => World.cell?_of_block (w := wg) (a := ⟨b, i, none⟩) (h6 b (by omega))), one, le, ok, h2, er.keep (fun y hy => ⟨hy.1, by rw [h5]; exact hy.2.1, hy.2.2⟩) (fun y _ hy => World.cell?_of_block (w := wg) (h6 y hy.2.2)), h3, h4, hl⟩
theorem sg_kind {l : TL} {n : Nat} (h : (tkAt l n).1 ≠ 4) : sgAt l n = [] := if_neg h
theorem rank0 {l : TL} {n : Nat} {m : Int} (hm : 1 ≤ m) (h : sgAt l n = []) : (opB (sgAt l n)).2 < m := by rw [h, opB_nil]; simp only; omega
set_option maxRecDepth 100000 in
set_option maxHeartbeats 2000000 in
theorem rbin_bad {w : World} {l : TL} {v : Value} (hT : TokL w w.heap.size v l) (i d : Nat) (m : Int) (j : Nat) (c : Int) (hc : c ≠ 0)
    (C : ∀ W, TokL W W.heap.size v l → Calls Tryz.prog 81 #[v, .int .i64 (i : Int), .int .i64 (d : Int)] W (PostP W (.bad j c))) :
    Calls Tryz.prog 45 #[v, .int .i64 (i : Int), .int .i64 (d : Int), .int .i64 m] w (PostP w (.bad j c)) := by
  have HT0 := Lib.hid (fun o => tokU hT (S3.bal w o))
  have Q := Lib.hid (fun a0 a1 a2 a3 a4 => R5.new w a0 a1 a2 a3 a4)
  have C := Lib.hid C
  have hq : (c == 0) = false := beq_eq_false_iff_ne.2 hc
  clear hT
  go_enter Tryz.func45, Tryz.ntmps45
  try simp only [List.append_eq, List.cons_append, List.nil_append]
  go_wp2_with fail
  refine (C.out (w.alloc zO) (HT0.out zO)).mono ?_
  rintro E w1 ⟨rfl, hb⟩
  have HB1 := Lib.hid hb
  clear hb
  obtain ⟨z0, z1, z2, z3, z4, r0, r1, r2, r3, r4, y0, y1, y2, y3, y4⟩ := ((Q.out _ _ _ _ _).bel HB1.out).facts
  have hq1 := ((Q.out _ _ _ _ _).bel HB1.out).lt
  have S5 := fun o => put5_al ((Q.out _ _ _ _ _).bel HB1.out) (.int .i64 0) (.int .i64 0) (.int .i64 0) (.string ⟨#[]⟩) (.slice none 0 0) o
  have s0 := fun o => (S5 o).1
  have s1 := fun o => (S5 o).2.1
  have s2 := fun o => (S5 o).2.2.1
  have s3 := fun o => (S5 o).2.2.2.1
  have s4 := fun o => (S5 o).2.2.2.2
  have HF := Lib.hid (fun o => Below.alloc (parse_fin zE none 0 0 HB1.out (zE_in _ _)).2 (by rw [put5_size]; omega) o)
  clear S5
  go_wp2_with fail
  exact bodyPost_ret (v := .tuple #[S3.eV zE (.slice none 0 0), .int .i64 (j : Int), .int .i64 c]) (by simp [results, Tryz.results45, go_sem, zE, s0, s1, s2, s3, s4]) rfl ⟨rfl, HF.out _⟩
/-- The end, whatever led there: what lies in block q is put into the result. -/
theorem BI.fin {w : World} {l : TL} {v : Value} {d q : Nat} {r : Res} {m : Int} {e : Ex} {A : Option Addr} {k c n : Nat} {wr : World} (h : BI w l v d q r m e A k c n wr) :
    S3.ER (put5 wr w.heap.size (.int .i64 e.kind) (.int .i64 e.op) (.int .i64 e.num) (.string (S3.B e.name)) (.slice A k c)) (Rn w.heap.size (put5 wr w.heap.size (.int .i64 e.kind) (.int .i64 e.op) (.int .i64 e.num) (.string (S3.B e.name)) (.slice A k c)).heap.size) e.args (.slice A k c) ∧
    Below w.heap.size w (put5 wr w.heap.size (.int .i64 e.kind) (.int .i64 e.op) (.int .i64 e.num) (.string (S3.B e.name)) (.slice A k c)) := by
  have h2 := put5_below h.bel (Nat.le_refl w.heap.size) (.int .i64 e.kind) (.int .i64 e.op) (.int .i64 e.num) (.string (S3.B e.name)) (.slice A k c)
  have h5 := put5_size wr w.heap.size (.int .i64 e.kind) (.int .i64 e.op) (.int .i64 e.num) (.string (S3.B e.name)) (.slice A k c)
  have h6 := put5_heap wr w.heap.size (.int .i64 e.kind) (.int .i64 e.op) (.int .i64 e.num) (.string (S3.B e.name)) (.slice A k c)
  have her := h.er
  generalize put5 wr w.heap.size (.int .i64 e.kind) (.int .i64 e.op) (.int .i64 e.num) (.string (S3.B e.name)) (.slice A k c) = wh at *
  exact ⟨her.keep (fun y hy => ⟨by have := hy.1; omega, by rw [h5]; exact hy.2.1⟩) (fun y _ hy => World.cell?_of_block (w := wr) (h6 y (by have := hy.1; omega))), h2⟩
set_option maxRecDepth 100000 in
set_option maxHeartbeats 8000000 in
theorem rbin_ok {w : World} {l : TL} {v : Value} (hT : TokL w w.heap.size v l) (hll : l.length ≤ 1000000) (i d : Nat) (_hd : d ≤ 9223372036854775807) (m : Int) (hm : 1 ≤ m) (hm6 : m ≤ 6) (e0 : Ex) (n0 : Nat) (hn0 : i < n0) (hn0l : n0 ≤ l.length) (r : Res) (hr : r = lopR l e0 n0 d m)
    (C : ∀ W, TokL W W.heap.size v l → Calls Tryz.prog 81 #[v, .int .i64 (i : Int), .int .i64 (d : Int)] W (PostP W (.ok e0 n0)))
    (CB : ∀ j m', i < j → j ≤ l.length → 1 ≤ m' → m' ≤ 6 → BIR l v j d m') :
    Calls Tryz.prog 45 #[v, .int .i64 (i : Int), .int .i64 (d : Int), .int .i64 m] w (PostP w r) := by
  obtain ⟨TA, Tc, rfl⟩ := hT.val
  have HT0 := Lib.hid (fun o => tokU hT (S3.bal w o))
  have HTW := Lib.hid hT
  have Q := Lib.hid (fun a0 a1 a2 a3 a4 => R5.new w a0 a1 a2 a3 a4)
  have C := Lib.hid C
  have CB := Lib.hid CB
  have HR := Lib.hid hr
  clear hT hr
  go_enter Tryz.func45, Tryz.ntmps45
  try simp only [List.append_eq, List.cons_append, List.nil_append]
  go_wp2_with fail
  refine (C.out (w.alloc zO) (HT0.out zO)).mono ?_
  rintro E w1 ⟨A0, k0, c0, rfl, ho, hE, hb⟩
  have hz1 := hb.size
  rw [S3.sz1] at hz1
  have H1 := Lib.hid (show BI w l (.slice TA l.length Tc) d w1.heap.size r m e0 A0 k0 c0 n0 (w1.alloc (S3.eO e0 (.slice A0 k0 c0))) from
    ⟨(HTW.out.bel ((after (S3.bal w zO) hb))).bel ((S3.bal w1 _).mono (by omega)), by omega, hn0l, ho, heap_alloc_new w1 _, hE.keep (fun x hx => ⟨by have := hx.1; rw [S3.sz1] at this; exact this, by rw [S3.sz1]; have := hx.2; omega, by have := hx.2; omega⟩) (fun _ _ hx => (S3.bal w1 _).cell hx.2),
      ((Q.out _ _ _ _ _).bel hb).bel (S3.bal w1 _), after (after (S3.bal w zO) hb) (S3.bal w1 _), HR.out⟩)
  clear ho hE hb C Q HR HT0
  generalize hq : w1.heap.size = q at *
  go_wp2_with fail
  generalize w1.alloc (S3.eO e0 (.slice A0 k0 c0)) = w2 at *
  go_loopw [12] (fun nx wr => ∃ (e : Ex) (A : Option Addr) (k c n : Nat), nx = .int .i64 (n : Int) ∧ Hid (BI w l (.slice TA l.length Tc) d q r m e A k c n wr) ∧ i < n) (fun nx _ => l.length - (intOf nx).toNat)
  case atStart => exact ⟨e0, A0, k0, c0, n0, rfl, H1, hn0⟩
  case round =>
    clear H1
    obtain ⟨e, A, k, c, n, rfl, HI, hin⟩ := hrel
    have hnl0 := HI.out.le
    rcases Nat.lt_or_ge n l.length with hlt | hge
    · obtain ⟨_, htl, tb, og, ta, e9, htb, t0, t1, t2⟩ := HI.out.tk.at3 n hlt
      cases e9
      have hlt' : (n : Int) < (l.length : Int) := by omega
      by_cases hk : (tkAt l n).1 = 4
      · have hsg : sgAt l n = (tkAt l n).2 := if_pos hk
        have q4 : ((tkAt l n).1 == 4) = true := by rw [hk]; rfl
        by_cases hrk : (opB (sgAt l n)).2 < m
        · obtain rfl : r = .ok e n := HI.out.lop.trans (lopR_end l e n d m hrk)
          have hor := opB_rank (sgAt l n)
          rw [hsg] at hrk hor
          clear hsg
          go_wp2_with fail
          refine (refop_calls (tkAt l n).2 _).mono ?_
          rintro E wa ⟨rfl, hb⟩
          have HIa := Lib.hid (HI.out.mv hb)
          clear hb HI t0 t1 t2
          generalize (opB (tkAt l n).2).2 = rk at *
          generalize (opB (tkAt l n).2).1 = op at *
          by_cases hop : op = 0
          · have q5 : (op == 0) = true := by rw [hop]; rfl
            obtain ⟨z0, z1, z2, z3, z4, r0, r1, r2, r3, r4, y0, y1, y2, y3, y4⟩ := HIa.out.res.facts
            have hres := HIa.out.res.lt
            obtain ⟨e0, e1, e2, e3, e4⟩ := row5_facts HIa.out.row
            have hqr := row5_lt HIa.out.row
            have HF := Lib.hid HIa.out.fin
            have HO := Lib.hid HIa.out.ok
            go_wp2_with fail
            exact bodyPost_ret (v := .tuple #[S3.eV e (.slice A k c), .int .i64 (n : Int), .int .i64 0]) (by simp [results, Tryz.results45, go_sem, r0, r1, r2, r3, r4]) rfl ⟨A, k, c, rfl, HO.out, HF.out.1, HF.out.2⟩
          · have q5 : (op == 0) = false := beq_eq_false_iff_ne.2 hop
            obtain ⟨z0, z1, z2, z3, z4, r0, r1, r2, r3, r4, y0, y1, y2, y3, y4⟩ := HIa.out.res.facts
            have hres := HIa.out.res.lt
            obtain ⟨e0, e1, e2, e3, e4⟩ := row5_facts HIa.out.row
            have hqr := row5_lt HIa.out.row
            have HF := Lib.hid HIa.out.fin
            have HO := Lib.hid HIa.out.ok
            go_wp2_with fail
            exact bodyPost_ret (v := .tuple #[S3.eV e (.slice A k c), .int .i64 (n : Int), .int .i64 0]) (by simp [results, Tryz.results45, go_sem, r0, r1, r2, r3, r4]) rfl ⟨A, k, c, rfl, HO.out, HF.out.1, HF.out.2⟩
        · have hlop := HI.out.lop.trans (lopR_eq l e n d m HI.out.one hm hrk)
          have hrank : 1 ≤ (opB (sgAt l n)).2 ∧ (opB (sgAt l n)).2 ≤ 5 ∧ 1 ≤ (opB (sgAt l n)).1 ∧ (opB (sgAt l n)).1 ≤ 13 := by
            rcases opB_rank (sgAt l n) with h1 | h1
            · rw [h1] at hrk; simp only at hrk; omega
            · exact h1
          have CBn := CB.out (n + 1) ((opB (sgAt l n)).2 + 1) (by omega) hlt (by omega) (by omega)
          have hwin := binR_within l (n + 1) d ((opB (sgAt l n)).2 + 1) (by omega) hlt
          have hcd := cd_bin l (n + 1) d ((opB (sgAt l n)).2 + 1)
          have q5 : ((opB (sgAt l n)).1 == 0) = false := beq_eq_false_iff_ne.2 (by omega)
          unfold BIR at CBn
          cases hB : binR l (n + 1) d ((opB (sgAt l n)).2 + 1) with
          | bad j c' =>
            rw [hB] at hlop CBn hcd
            obtain rfl : r = .bad j c' := hlop
            rw [hsg] at hrk hrank CBn q5
            have CBn := Lib.hid CBn
            have hq' : (c' == 0) = false := beq_eq_false_iff_ne.2 hcd
            clear hB hwin hsg
            go_wp2_with fail
            refine (refop_calls (tkAt l n).2 _).mono ?_
            rintro E wa ⟨rfl, hb⟩
            have HIa := Lib.hid (HI.out.mv hb)
            clear hb HI t0 t1 t2
            generalize (opB (tkAt l n).2).2 = rk at *
            generalize (opB (tkAt l n).2).1 = op at *
            go_wp2_with fail
            rw [show (n : Int) + 1 = ((n + 1 : Nat) : Int) by omega]
            refine (CBn.out wa HIa.out.tk).mono ?_
            rintro E wd ⟨rfl, hb⟩
            have HId := Lib.hid (HIa.out.mv hb)
            clear hb HIa
            obtain ⟨z0, z1, z2, z3, z4, r0, r1, r2, r3, r4, y0, y1, y2, y3, y4⟩ := HId.out.res.facts
            have hres := HId.out.res.lt
            have S5 := fun o => put5_al HId.out.res (.int .i64 0) (.int .i64 0) (.int .i64 0) (.string ⟨#[]⟩) (.slice none 0 0) o
            have s0 := fun o => (S5 o).1
            have s1 := fun o => (S5 o).2.1
            have s2 := fun o => (S5 o).2.2.1
            have s3 := fun o => (S5 o).2.2.2.1
            have s4 := fun o => (S5 o).2.2.2.2
            have HF := Lib.hid (fun o => Below.alloc (put5_below HId.out.bel (Nat.le_refl w.heap.size) (.int .i64 0) (.int .i64 0) (.int .i64 0) (.string ⟨#[]⟩) (.slice none 0 0)) (by rw [put5_size]; omega) o)
            clear S5
            go_wp2_with fail
            exact bodyPost_ret (v := .tuple #[S3.eV zE (.slice none 0 0), .int .i64 (j : Int), .int .i64 c']) (by simp [results, Tryz.results45, go_sem, zE, s0, s1, s2, s3, s4]) rfl ⟨rfl, HF.out _⟩
          | ok x n1 =>
            rw [hB] at hlop CBn hwin
            simp only [Res.within] at hwin
            have hok5 := Lib.hid (okE_op (k := 5) (op := (opB (sgAt l n)).1) (s := []) (args := [e, x]) (by decide) (okI_small (by omega) (by omega)) (by simp))
            rw [hsg] at hrk hrank CBn q5 hok5
            simp only [Res.bind, madeR] at hlop
            rw [hsg] at hlop
            have CBn := Lib.hid CBn
            clear hB hsg hcd
            by_cases hx : S3.exB ⟨5, (opB (tkAt l n).2).1, 0, [], [e, x]⟩ = true
            · rw [if_pos hx] at hlop
              simp only at hlop
              have HLop := Lib.hid hlop
              clear hlop
              go_wp2_with fail
              refine (refop_calls (tkAt l n).2 _).mono ?_
              rintro E wa ⟨rfl, hb⟩
              have HIa := Lib.hid (HI.out.mv hb)
              clear hb HI t0 t1 t2
              generalize (opB (tkAt l n).2).2 = rk at *
              generalize (opB (tkAt l n).2).1 = op at *
              go_wp2_with fail
              rw [show (n : Int) + 1 = ((n + 1 : Nat) : Int) by omega]
              refine (CBn.out wa HIa.out.tk).mono ?_
              rintro E wd ⟨A1, k1, c1, rfl, ho1, hE1, hb⟩
              have HId := HIa.out.mv hb
              have hqa := row5_lt HIa.out.row
              have hqd := row5_lt HId.row
              have EX := er_two' (w := wd.alloc (S3.eO x (.slice A1 k1 c1))) (R := Rx q (w.heap.size + 1) wd.heap.size) (R' := Rx q (w.heap.size + 1) (wd.heap.size + 1 + 1)) HId.ok ho1 (fun y hy => ⟨⟨hy.1, by have := hy.2.1; omega, hy.2.2⟩, by rw [S3.sz1]; have := hy.2.1; omega⟩) ⟨by rw [S3.sz1]; omega, by rw [S3.sz1]; omega, by rw [S3.sz1]; omega⟩ (HId.er.keep (fun _ hy => hy) (fun _ _ hy => (S3.bal wd _).cell hy.2.1)) (hE1.keep (fun y hy => ⟨by have := hy.1; omega, hy.2, by have := hy.1; omega⟩) (fun _ _ hy => (S3.bal wd _).cell hy.2))
              rw [S3.sz1] at EX
              have EX := Lib.hid EX
              have HSX := Lib.hid (show ((wd.alloc (S3.eO x (.slice A1 k1 c1))).alloc (eO2 e (.slice A k c) x (.slice A1 k1 c1))).heap.size = wd.heap.size + 1 + 1 by rw [S3.sz1, S3.sz1])
              have b1 := S3.bal wd (S3.eO x (.slice A1 k1 c1))
              have b2 := S3.bal (wd.alloc (S3.eO x (.slice A1 k1 c1))) (eO2 e (.slice A k c) x (.slice A1 k1 c1))
              have QX := Lib.hid ((HId.res.bel b1).bel b2)
              have PX := Lib.hid (((show R5 wd q from ⟨_, _, _, _, _, HId.row⟩).bel b1).bel b2)
              have BX := Lib.hid (after (after HId.bel b1) b2)
              have TX := Lib.hid ((HId.mv b1).mv b2).tok
              have hwd := HId.bel.size
              obtain ⟨e0, e1, e2, e3, e4⟩ := row5_facts HId.row
              clear hb HIa HId hE1 ho1 b1 b2
              go_wp2_with fail
              generalize (wd.alloc (S3.eO x (.slice A1 k1 c1))).alloc (eO2 e (.slice A k c) x (.slice A1 k1 c1)) = wx at *
              refine (rmade_yes ⟨5, op, 0, [], [e, x]⟩ hok5.out hx _ 2 2 (n1 : Int) (by omega) (by omega) wx (EX.out.keep (fun y hy => by have := hy.2.1; rw [HSX.out]; exact this) fun _ _ _ => rfl)).mono ?_
              rintro E wg ⟨rfl, hb⟩
              have hzg := hb.size
              rw [HSX.out] at hzg
              have PG := PX.out.bel hb
              have EG := EX.out.keep (R' := Rx q (w.heap.size + 1) wg.heap.size) (fun y hy => ⟨hy.1, Nat.lt_of_lt_of_le hy.2.1 hzg, hy.2.2⟩) (fun y j hy => hb.cell (p := ⟨y, j, none⟩) (by rw [HSX.out]; exact hy.2.1))
              have HN := Lib.hid (BI.next (r := r) (m := m) (d := d) (e := ⟨5, op, 0, [], [e, x]⟩) (n := n1) hz1 (TX.out.keep (Nat.le_refl _) (fun b i hx => hb.cell (p := ⟨b, i, none⟩) (by rw [HSX.out]; show b < _; omega))) (by omega) hwin.2 hok5.out PG EG (QX.out.bel hb) (after BX.out hb) HLop.out)
              dsimp only [put5] at HN
              obtain ⟨z0, z1, z2, z3, z4, r0, r1, r2, r3, r4, y0, y1, y2, y3, y4⟩ := PG.facts
              clear hb PG EG EX TX PX QX BX
              go_wp2_with fail
              go_roundw
              case rel => exact ⟨_, _, _, _, _, rfl, HN, by omega⟩
              case measure => simp [intOf]; omega
            · simp only [Bool.not_eq_true] at hx
              rw [if_neg (by rw [hx]; decide)] at hlop
              obtain rfl : r = .bad (n1 - 1) 8 := hlop
              go_wp2_with fail
              refine (refop_calls (tkAt l n).2 _).mono ?_
              rintro E wa ⟨rfl, hb⟩
              have HIa := Lib.hid (HI.out.mv hb)
              clear hb HI t0 t1 t2
              generalize (opB (tkAt l n).2).2 = rk at *
              generalize (opB (tkAt l n).2).1 = op at *
              go_wp2_with fail
              rw [show (n : Int) + 1 = ((n + 1 : Nat) : Int) by omega]
              refine (CBn.out wa HIa.out.tk).mono ?_
              rintro E wd ⟨A1, k1, c1, rfl, ho1, hE1, hb⟩
              have HId := HIa.out.mv hb
              have hqa := row5_lt HIa.out.row
              have hqd := row5_lt HId.row
              have EX := er_two' (w := wd.alloc (S3.eO x (.slice A1 k1 c1))) (R := Rx q (w.heap.size + 1) wd.heap.size) (R' := Rx q (w.heap.size + 1) (wd.heap.size + 1 + 1)) HId.ok ho1 (fun y hy => ⟨⟨hy.1, by have := hy.2.1; omega, hy.2.2⟩, by rw [S3.sz1]; have := hy.2.1; omega⟩) ⟨by rw [S3.sz1]; omega, by rw [S3.sz1]; omega, by rw [S3.sz1]; omega⟩ (HId.er.keep (fun _ hy => hy) (fun _ _ hy => (S3.bal wd _).cell hy.2.1)) (hE1.keep (fun y hy => ⟨by have := hy.1; omega, hy.2, by have := hy.1; omega⟩) (fun _ _ hy => (S3.bal wd _).cell hy.2))
              rw [S3.sz1] at EX
              have EX := Lib.hid EX
              have HSX := Lib.hid (show ((wd.alloc (S3.eO x (.slice A1 k1 c1))).alloc (eO2 e (.slice A k c) x (.slice A1 k1 c1))).heap.size = wd.heap.size + 1 + 1 by rw [S3.sz1, S3.sz1])
              have b1 := S3.bal wd (S3.eO x (.slice A1 k1 c1))
              have b2 := S3.bal (wd.alloc (S3.eO x (.slice A1 k1 c1))) (eO2 e (.slice A k c) x (.slice A1 k1 c1))
              have QX := Lib.hid ((HId.res.bel b1).bel b2)
              have PX := Lib.hid (((show R5 wd q from ⟨_, _, _, _, _, HId.row⟩).bel b1).bel b2)
              have BX := Lib.hid (after (after HId.bel b1) b2)
              have TX := Lib.hid ((HId.mv b1).mv b2).tok
              have hwd := HId.bel.size
              obtain ⟨e0, e1, e2, e3, e4⟩ := row5_facts HId.row
              clear hb HIa HId hE1 ho1 b1 b2
              go_wp2_with fail
              generalize (wd.alloc (S3.eO x (.slice A1 k1 c1))).alloc (eO2 e (.slice A k c) x (.slice A1 k1 c1)) = wx at *
              refine (rmade_no ⟨5, op, 0, [], [e, x]⟩ hok5.out hx _ 2 2 (n1 : Int) (by omega) (by omega) wx (EX.out.keep (fun y hy => by have := hy.2.1; rw [HSX.out]; exact this) fun _ _ _ => rfl)).mono ?_
              rintro E wg ⟨rfl, hb⟩
              have hzg := hb.size
              rw [HSX.out] at hzg
              have PG := PX.out.bel hb
              have RG := QX.out.bel hb
              have HBg := Lib.hid (put5_below (put5_below (after BX.out hb) (show w.heap.size ≤ q by omega) (.int .i64 0) (.int .i64 0) (.int .i64 0) (.string ⟨#[]⟩) (.slice none 0 0)) (Nat.le_refl w.heap.size) (.int .i64 0) (.int .i64 0) (.int .i64 0) (.string ⟨#[]⟩) (.slice none 0 0))
              have RP := RG.put (show w.heap.size ≠ q by omega) (.int .i64 0) (.int .i64 0) (.int .i64 0) (.string ⟨#[]⟩) (.slice none 0 0)
              obtain ⟨z0, z1, z2, z3, z4, r0, r1, r2, r3, r4, y0, y1, y2, y3, y4⟩ := PG.facts
              obtain ⟨z0', z1', z2', z3', z4', r0', r1', r2', r3', r4', y0', y1', y2', y3', y4'⟩ := RG.facts
              have hqg := PG.lt
              have hwg := RG.lt
              clear hb PG RG EX TX PX QX BX RP
              go_wp2_with fail
              exact bodyPost_ret (v := .tuple #[S3.eV zE (.slice none 0 0), .int .i64 ((n1 : Int) - 1), .int .i64 8]) (by simp [results, Tryz.results45, go_sem, zE, r0', r1', r2', r3', r4']) rfl ⟨by rw [show ((n1 - 1 : Nat) : Int) = (n1 : Int) - 1 by omega], HBg.out⟩
      · have hs := sg_kind hk
        have q4 : ((tkAt l n).1 == 4) = false := beq_eq_false_iff_ne.2 hk
        obtain rfl : r = .ok e n := HI.out.lop.trans (lopR_end l e n d m (rank0 hm hs))
        obtain ⟨z0, z1, z2, z3, z4, r0, r1, r2, r3, r4, y0, y1, y2, y3, y4⟩ := HI.out.res.facts
        have hres := HI.out.res.lt
        obtain ⟨e0, e1, e2, e3, e4⟩ := row5_facts HI.out.row
        have hqr := row5_lt HI.out.row
        have HF := Lib.hid HI.out.fin
        have HO := Lib.hid HI.out.ok
        go_wp2_with fail
        exact bodyPost_ret (v := .tuple #[S3.eV e (.slice A k c), .int .i64 (n : Int), .int .i64 0]) (by simp [results, Tryz.results45, go_sem, r0, r1, r2, r3, r4]) rfl ⟨A, k, c, rfl, HO.out, HF.out.1, HF.out.2⟩
    · have hs : sgAt l n = [] := by unfold sgAt; rw [tk_out hge]; rfl
      have hge' : ¬ (n : Int) < (l.length : Int) := by omega
      obtain rfl : r = .ok e n := HI.out.lop.trans (lopR_end l e n d m (rank0 hm hs))
      obtain ⟨z0, z1, z2, z3, z4, r0, r1, r2, r3, r4, y0, y1, y2, y3, y4⟩ := HI.out.res.facts
      have hres := HI.out.res.lt
      obtain ⟨e0, e1, e2, e3, e4⟩ := row5_facts HI.out.row
      have hqr := row5_lt HI.out.row
      have HF := Lib.hid HI.out.fin
      have HO := Lib.hid HI.out.ok
      go_wp2_with fail
      exact bodyPost_ret (v := .tuple #[S3.eV e (.slice A k c), .int .i64 (n : Int), .int .i64 0]) (by simp [results, Tryz.results45, go_sem, r0, r1, r2, r3, r4]) rfl ⟨A, k, c, rfl, HO.out, HF.out.1, HF.out.2⟩
end Go.Proofs.YtlhifbckmknijaaGreatDoor.E5

namespace Go.Proofs.YtlhifbckmknijaaGreatDoor.E5
open Go Go.RowKit Go.Proofs.YtlhifbckmknijaaGreatDoor

theorem rix_calls {l : TL} {v : Value} (hll : l.length ≤ 1000000) {i d : Nat} (hil : i < l.length) (hd : d ≤ 9223372036854775807) (hC : i + 1 < l.length → d < 40 → BIR l v (i + 2) (d + 1) 1) (hs : sgAt l (i + 1) = [91]) :
    ∀ W, TokL W W.heap.size v l → Calls Tryz.prog 133 #[v, .int .i64 (i : Int), .int .i64 (d : Int)] W (PostP W (if 40 ≤ d then .bad (i + 1) 8 else (binR l (i + 2) (d + 1) 1).bind fun e n => if sgAt l n = [93] then madeR ⟨6, 0, 0, (tkAt l i).2, [e]⟩ (n + 1) else .bad n 7)) := by
  intro W hW
  have hi1 := sgAt_lt hs (by simp)
  by_cases h40 : 40 ≤ d
  · rw [if_pos h40]; exact rix_deep hW hll i (by omega) d hd h40
  rw [if_neg h40]
  have hcd := cd_bin l (i + 2) (d + 1) 1
  have hwin := binR_within l (i + 2) (d + 1) 1 (by omega) (by omega)
  cases hr : binR l (i + 2) (d + 1) 1 with
  | bad j c =>
    rw [hr] at hcd
    exact rix_bad hW hll i (by omega) d hd (by omega) (hC hi1 (by omega)) j c hcd hr
  | ok e n =>
    rw [hr] at hwin
    simp only [Res.within] at hwin
    simp only [Res.bind]
    by_cases hn : sgAt l n = [93]
    · rw [if_pos hn]
      unfold madeR
      cases hx : S3.exB ⟨6, 0, 0, (tkAt l i).2, [e]⟩ with
      | true => exact rix_yes hW hll i (by omega) d hd (by omega) (hC hi1 (by omega)) e n hr hil hwin.2 hn hx
      | false => exact rix_made hW hll i (by omega) d hd (by omega) (hC hi1 (by omega)) e n hr hil hwin.2 hn hx
    · rw [if_neg hn]; exact rix_no hW hll i (by omega) d hd (by omega) (hC hi1 (by omega)) e n hr hn
theorem rns_calls {l : TL} {v : Value} (hll : l.length ≤ 1000000) {i d : Nat} (hil : i < l.length) (hd : d ≤ 9223372036854775807) (hB : d < 40 → BIR l v (i + 1) (d + 1) 1) (hO : d < 40 → OPR l v (i + 1) (d + 1)) :
    ∀ W, TokL W W.heap.size v l → Calls Tryz.prog 134 #[v, .int .i64 (i : Int), .int .i64 (d : Int)] W (PostP W (
      if sgAt l i = [45] then if 40 ≤ d then .bad i 8 else (opdR l (i + 1) (d + 1)).bind fun e n => madeR ⟨4, 14, 0, [], [e]⟩ n
      else if sgAt l i = [33] then if 40 ≤ d then .bad i 8 else (opdR l (i + 1) (d + 1)).bind fun e n => madeR ⟨4, 15, 0, [], [e]⟩ n
      else if sgAt l i = [40] then if 40 ≤ d then .bad i 8 else (binR l (i + 1) (d + 1) 1).bind fun e n => if sgAt l n = [41] then .ok e (n + 1) else .bad n 7
      else .bad i 7)) := by
  intro W hW
  have hcd := cd_opd l (i + 1) (d + 1)
  have hcb := cd_bin l (i + 1) (d + 1) 1
  have hwo := opdR_within l (i + 1) (d + 1) hil
  have hwb := binR_within l (i + 1) (d + 1) 1 (by omega) hil
  by_cases h1 : sgAt l i = [45]
  · rw [if_pos h1]
    by_cases h40 : 40 ≤ d
    · rw [if_pos h40]; exact rns_deep_min hW hll i (by omega) d hd h1 h40
    rw [if_neg h40]
    cases hr : opdR l (i + 1) (d + 1) with
    | bad j c => rw [hr] at hcd; exact rns_bad_min hW hll i (by omega) d hd h1 (by omega) (hO (by omega)) j c hcd hr
    | ok e n =>
      rw [hr] at hwo
      simp only [Res.within] at hwo
      simp only [Res.bind]
      unfold madeR
      cases hx : S3.exB ⟨4, 14, 0, [], [e]⟩ with
      | true => exact rns_yes_min hW hll i (by omega) d hd h1 (by omega) (hO (by omega)) e n (by omega) hwo.2 hr hx
      | false => exact rns_made_min hW hll i (by omega) d hd h1 (by omega) (hO (by omega)) e n (by omega) hwo.2 hr hx
  rw [if_neg h1]
  by_cases h2 : sgAt l i = [33]
  · rw [if_pos h2]
    by_cases h40 : 40 ≤ d
    · rw [if_pos h40]; exact rns_deep_not hW hll i (by omega) d hd h2 h40
    rw [if_neg h40]
    cases hr : opdR l (i + 1) (d + 1) with
    | bad j c => rw [hr] at hcd; exact rns_bad_not hW hll i (by omega) d hd h2 (by omega) (hO (by omega)) j c hcd hr
    | ok e n =>
      rw [hr] at hwo
      simp only [Res.within] at hwo
      simp only [Res.bind]
      unfold madeR
      cases hx : S3.exB ⟨4, 15, 0, [], [e]⟩ with
      | true => exact rns_yes_not hW hll i (by omega) d hd h2 (by omega) (hO (by omega)) e n (by omega) hwo.2 hr hx
      | false => exact rns_made_not hW hll i (by omega) d hd h2 (by omega) (hO (by omega)) e n (by omega) hwo.2 hr hx
  rw [if_neg h2]
  by_cases h3 : sgAt l i = [40]
  · rw [if_pos h3]
    by_cases h40 : 40 ≤ d
    · rw [if_pos h40]; exact rns_deep_par hW hll i (by omega) d hd h3 h40
    rw [if_neg h40]
    cases hr : binR l (i + 1) (d + 1) 1 with
    | bad j c => rw [hr] at hcb; exact rns_bad_par hW hll i (by omega) d hd h3 (by omega) (hB (by omega)) j c hcb hr
    | ok e n =>
      rw [hr] at hwb
      simp only [Res.within] at hwb
      simp only [Res.bind]
      by_cases hn : sgAt l n = [41]
      · rw [if_pos hn]; exact rns_yes_par hW hll i (by omega) d hd h3 (by omega) (hB (by omega)) e n hwb.2 hr hn
      · rw [if_neg hn]; exact rns_no_par hW hll i (by omega) d hd h3 (by omega) (hB (by omega)) e n hwb.2 hr hn
  rw [if_neg h3]
  exact rns_none hW hll i (by omega) d hd h1 h2 h3
theorem sg_notk {l : TL} {i : Nat} (h : (tkAt l i).1 ≠ 4) {s : Bytes} (hs : s ≠ []) : sgAt l i ≠ s := by rw [sg_kind h]; exact fun e => hs e.symm
theorem rop_calls {l : TL} {v : Value} (hll : l.length ≤ 1000000) {i d : Nat} (hi : i ≤ l.length) (hd : d ≤ 9223372036854775807) (hB : i < l.length → d < 40 → BIR l v (i + 1) (d + 1) 1) (hO : i < l.length → d < 40 → OPR l v (i + 1) (d + 1)) (hB2 : i + 1 < l.length → d < 40 → BIR l v (i + 2) (d + 1) 1) :
    OPR l v i d := by
  intro W hW
  rcases Nat.lt_or_ge i l.length with hil | hge
  · rw [opdR_eq l i d hi]
    by_cases h2 : (tkAt l i).1 = 2
    · rw [if_pos h2]
      unfold numR numT
      cases hP : N2.numParse (tkAt l i).2 with
      | none => exact rop_numbad hW hll i hil d h2 0 7 (by rw [hP]; exact ⟨rfl, rfl⟩) (.inl (by decide))
      | some n =>
        simp only
        by_cases hn : 0 ≤ n
        · rw [if_pos hn]; exact rop_num hW hll i hil d h2 n hn hP
        · rw [if_neg hn]; exact rop_numbad hW hll i hil d h2 n 0 (by rw [hP]; exact ⟨rfl, rfl⟩) (.inr ⟨rfl, by omega⟩)
    rw [if_neg h2]
    by_cases h1 : (tkAt l i).1 = 1
    · rw [if_pos h1]
      have k := fun s => kw_no (l := l) (i := i) (s := s) (.inl (by omega))
      by_cases hn : S3.nameB (tkAt l i).2 = true
      · have hnm : nmTok (tkAt l i) = true := by simp [nmTok, h1, hn]
        rw [if_pos hn]
        by_cases hs : sgAt l (i + 1) = [91]
        · rw [if_pos hs]
          exact rop_idx hW hll i hil d (k _) (k _) (k _) h2 hnm hs _ (rix_calls hll hil hd hB2 hs)
        · rw [if_neg hs]; exact rop_var hW hll i hil d (k _) (k _) (k _) h2 hnm hs
      · rw [if_neg hn]
        have h4 : (tkAt l i).1 ≠ 4 := by omega
        have := rop_nest hW hll i hil d (k _) (k _) (k _) h2 (by simp [nmTok, hn]) _ (rns_calls hll hil hd (hB hil) (hO hil))
        rwa [if_neg (sg_notk h4 (by simp)), if_neg (sg_notk h4 (by simp)), if_neg (sg_notk h4 (by simp))] at this
    rw [if_neg h1]
    have hnm : nmTok (tkAt l i) = false := by simp [nmTok, h1]
    by_cases h3 : (tkAt l i).1 = 3
    · rw [if_pos h3]
      unfold keyR
      by_cases ht : (tkAt l i).2 = [116, 114, 117, 101]
      · rw [if_pos ht]; exact rop_true hW hll i hil d (kw_yes h3 ht) h2
      rw [if_neg ht]
      by_cases hf : (tkAt l i).2 = [102, 97, 108, 115, 101]
      · rw [if_pos hf]; exact rop_false hW hll i hil d (kw_no (.inr ht)) (kw_yes h3 hf) h2
      rw [if_neg hf]
      by_cases hn : (tkAt l i).2 = [108, 101, 110]
      · rw [if_pos hn]; exact rop_len hW hll i hil d (kw_no (.inr ht)) (kw_no (.inr hf)) (kw_yes h3 hn) h2 _ fun W hW => rlen_calls hW hll i hi
      rw [if_neg hn]
      have h4 : (tkAt l i).1 ≠ 4 := by omega
      have := rop_nest hW hll i hil d (kw_no (.inr ht)) (kw_no (.inr hf)) (kw_no (.inr hn)) h2 hnm _ (rns_calls hll hil hd (hB hil) (hO hil))
      rwa [if_neg (sg_notk h4 (by simp)), if_neg (sg_notk h4 (by simp)), if_neg (sg_notk h4 (by simp))] at this
    rw [if_neg h3]
    have k := fun s => kw_no (l := l) (i := i) (s := s) (.inl h3)
    exact rop_nest hW hll i hil d (k _) (k _) (k _) h2 hnm _ (rns_calls hll hil hd (hB hil) (hO hil))
  · have hil : i = l.length := by omega
    subst hil
    have e : opdR l l.length d = .bad l.length 7 := by
      have h0 : tkAt l l.length = (0, []) := tk_out (Nat.le_refl _)
      have hs : sgAt l l.length = [] := by unfold sgAt; rw [h0]; rfl
      rw [opdR_eq l _ d (Nat.le_refl _), h0, hs, if_neg (by decide), if_neg (by decide), if_neg (by decide), if_neg (by decide), if_neg (by decide), if_neg (by decide)]
    rw [e]
    exact rop_out hW l.length (Nat.le_refl _) d
theorem rparts (l : TL) (v : Value) (hll : l.length ≤ 1000000) (n : Nat) : (∀ i d, i ≤ l.length → l.length - i ≤ n → d ≤ 9223372036854775807 → OPR l v i d) ∧ (∀ i d m, i ≤ l.length → l.length - i ≤ n → d ≤ 9223372036854775807 → 1 ≤ m → m ≤ 6 → BIR l v i d m) := by
  induction n using Nat.strongRecOn with
  | _ n ih =>
    have hO : ∀ i d, i ≤ l.length → l.length - i ≤ n → d ≤ 9223372036854775807 → OPR l v i d := by
      intro i d hi hn hd
      exact rop_calls hll hi hd (fun hl h40 => (ih (l.length - (i + 1)) (by omega)).2 (i + 1) (d + 1) 1 (by omega) (by omega) (by omega) (by omega) (by omega)) (fun hl h40 => (ih (l.length - (i + 1)) (by omega)).1 (i + 1) (d + 1) (by omega) (by omega) (by omega))
        (fun hl h40 => (ih (l.length - (i + 2)) (by omega)).2 (i + 2) (d + 1) 1 (by omega) (by omega) (by omega) (by omega) (by omega))
    refine ⟨hO, fun i d m hi hn hd hm hm6 W hW => ?_⟩
    have CO := hO i d hi hn hd
    unfold OPR at CO
    have hcd := cd_opd l i d
    cases hr : opdR l i d with
    | bad j c =>
      rw [hr] at CO hcd
      rw [binR_eq l i d m hm hi, hr]
      exact rbin_bad hW i d m j c hcd CO
    | ok e n0 =>
      rw [hr] at CO
      have hwin := opdR_within l i d hi
      rw [hr] at hwin
      simp only [Res.within] at hwin
      rw [binR_eq l i d m hm hi, hr]
      exact rbin_ok hW hll i d hd m hm hm6 e n0 hwin.1 hwin.2 _ rfl CO fun j m' hj hjl hm1 hm2 => (ih (l.length - j) (by omega)).2 j d m' hjl (Nat.le_refl _) hd hm1 hm2
set_option maxRecDepth 100000 in
set_option maxHeartbeats 2000000 in
theorem rparse_range {w : World} {n c : Nat} {A : Option Addr} (i d : Int) (h : i < 0 ∨ (n : Int) < i ∨ d < 0) :
    Calls Tryz.prog 12 #[.slice A n c, .int .i64 i, .int .i64 d] w fun E w' => E = .returned (.tuple #[S3.eV zE (.slice none 0 0), .int .i64 0, .int .i64 3]) ∧ Below w.heap.size w w' := by
  go_enter Tryz.func12, Tryz.ntmps12
  go_wp2_with fail
  all_goals exact bodyPost_ret (v := .tuple #[S3.eV zE (.slice none 0 0), .int .i64 0, .int .i64 3]) (by simp [results, Tryz.results12, go_sem, zE]) rfl ⟨rfl, S3.bal w _⟩
set_option maxRecDepth 100000 in
set_option maxHeartbeats 2000000 in
theorem rparse_calls {w : World} {l : TL} {v : Value} (hT : TokL w w.heap.size v l) (hll : l.length ≤ 1000000) (i d : Nat) (hi : i ≤ l.length) (hd : d ≤ 9223372036854775807) :
    Calls Tryz.prog 12 #[v, .int .i64 (i : Int), .int .i64 (d : Int)] w (PostP w (parseR l i d)) := by
  obtain ⟨TA, Tc, rfl⟩ := hT.val
  rw [parseR_is]
  have C := Lib.hid (fun o => (rparts l (.slice TA l.length Tc) hll (l.length - i)).2 i d 1 hi (Nat.le_refl _) hd (by omega) (by omega) (w.alloc o) (tokU hT (S3.bal w o)))
  have Q := Lib.hid (fun a0 a1 a2 a3 a4 => R5.new w a0 a1 a2 a3 a4)
  have g1 : ¬ (i : Int) < 0 := by omega
  have g2 : ¬ (l.length : Int) < (i : Int) := by omega
  have g3 : ¬ (d : Int) < 0 := by omega
  clear hT
  generalize binR l i d 1 = r at *
  go_enter Tryz.func12, Tryz.ntmps12
  go_wp2_with fail
  refine (C.out _).mono ?_
  intro E w1 hP
  cases r with
  | bad j c =>
    obtain ⟨rfl, hb⟩ := hP
    obtain ⟨z0, z1, z2, z3, z4, r0, r1, r2, r3, r4, y0, y1, y2, y3, y4⟩ := ((Q.out _ _ _ _ _).bel hb).facts
    have hq1 := ((Q.out _ _ _ _ _).bel hb).lt
    have HB := Lib.hid (parse_fin zE none 0 0 hb (er_nil _ _)).2
    clear hb
    go_wp2_with fail
    exact bodyPost_ret (v := .tuple #[S3.eV zE (.slice none 0 0), .int .i64 (j : Int), .int .i64 c]) (by simp [results, Tryz.results12, go_sem, zE, r0, r1, r2, r3, r4]) rfl ⟨rfl, HB.out⟩
  | ok e n =>
    obtain ⟨A, k, c, rfl, ho, hE, hb⟩ := hP
    obtain ⟨z0, z1, z2, z3, z4, r0, r1, r2, r3, r4, y0, y1, y2, y3, y4⟩ := ((Q.out _ _ _ _ _).bel hb).facts
    have hq1 := ((Q.out _ _ _ _ _).bel hb).lt
    rw [S3.sz1] at hE
    have HB := Lib.hid (parse_fin e A k c hb hE)
    have HO := Lib.hid ho
    clear hb hE ho
    go_wp2_with fail
    exact bodyPost_ret (v := .tuple #[S3.eV e (.slice A k c), .int .i64 (n : Int), .int .i64 0]) (by simp [results, Tryz.results12, go_sem, r0, r1, r2, r3, r4]) rfl ⟨A, k, c, rfl, HO.out, HB.out.1, HB.out.2⟩
end Go.Proofs.YtlhifbckmknijaaGreatDoor.E5

namespace Go.Proofs.YtlhifbckmknijaaGreatDoor.E5
open Go Go.RowKit Go.Proofs.YtlhifbckmknijaaGreatDoor

/-- An expression put behind a row of one's own. -/
theorem ex_app {base : Nat} {acc : List Ex} {x : Value} {wr W : World} {e : Ex} {A : Option Addr} {k c : Nat} (h : S3.GrI S3.kE base acc x wr) (hb : Below wr.heap.size wr W) (ho : S3.OkE e) (hE : S3.ER W (Rn wr.heap.size W.heap.size) e.args (.slice A k c)) (hl : acc.length ≤ 1000000) (ty : TypeId) :
    ∃ g cap w8, (Builtin.append_ #[27, 27] ty #[x, .slice (some ⟨W.heap.size, 0, none⟩) 1 1]).run Tryz.prog (W.alloc (S3.eO e (.slice A k c))) = .ok (.slice (some ⟨g, 0, none⟩) (acc.length + 1) cap) w8 ∧
      S3.GrI S3.kE base (acc ++ [e]) (.slice (some ⟨g, 0, none⟩) (acc.length + 1) cap) w8 ∧ Below base W w8 := by
  obtain ⟨i0, hi0, hz0, hz1, hz2⟩ := info_parts S3.infoE
  have hW := h.bel hb
  have hp := h.part (a := e) (x := .slice A k c) (w1 := W) ⟨ho, hE⟩
  obtain ⟨xs, hown, hst⟩ := hW.own
  have hbase : base ≤ W.heap.size := by obtain ⟨_, _, _, h3⟩ := hW; exact h3
  obtain ⟨v', w', hrun, h2, h3, _, h5⟩ := run_append_own_at (P := Tryz.prog) (W.alloc (S3.eO e (.slice A k c))) base 27 ty 29 i0 _ 5 64 Tryz.underlying27 hi0 hz0 hz1 hz2 rfl (by decide) x acc.length xs (hown.alloc _) ⟨W.heap.size, 0, none⟩ 1 1 (S3.eC e (.slice A k c)) rfl
    (fun j u hu => by rw [add_plain, Nat.zero_add]; exact S3.newCell W _ 29 j u (by rw [List.getElem?_toArray]; exact hu)) (by intro u hu; simp [S3.eC] at hu; rcases hu with rfl | rfl | rfl | rfl | rfl <;> rfl) (by unfold maxLen; omega) (by omega) (by rw [S3.sz1]; omega)
  obtain ⟨g, cap, rfl⟩ : ∃ g cap, v' = .slice (some ⟨g, 0, none⟩) (acc.length + 1) cap := by
    rcases h2.2 with ⟨_, h9⟩ | ⟨g, cap, cur, e1, _⟩
    · omega
    · exact ⟨g, cap, e1⟩
  have h6 : x.ownBlock = some g ∨ g = (W.alloc (S3.eO e (.slice A k c))).heap.size := by
    rcases h5 with h5 | h5
    · exact .inl h5.symm
    · simp only [Value.ownBlock, Option.some.injEq] at h5; exact .inr h5
  obtain ⟨h7, h8⟩ := hst e (.slice A k c) _ g cap w' hp h2 h3 h6
  exact ⟨g, cap, w', hrun, h7, h8⟩
set_option maxRecDepth 100000 in
set_option maxHeartbeats 2000000 in
theorem rlst_range {w : World} {n c : Nat} {A : Option Addr} (i d : Int) (h : i < 0 ∨ (n : Int) < i ∨ d < 0) :
    Calls Tryz.prog 15 #[.slice A n c, .int .i64 i, .int .i64 d] w fun E w' => E = .returned (.tuple #[.slice none 0 0, .int .i64 0, .int .i64 3]) ∧ Below w.heap.size w w' := by
  go_enter Tryz.func15, Tryz.ntmps15
  go_wp2_with fail
  all_goals (go_ret3; exact ⟨rfl, Below.refl _ _⟩)
/-- What has been read of a list. -/
structure RLI (w : World) (l : TL) (v : Value) (d : Nat) (r : ResL) (acc : List Ex) (n f : Nat) (x : Value) (wr : World) : Prop where
  tok : TokL wr w.heap.size v l
  gr : S3.GrI S3.kE w.heap.size acc x wr
  bel : Below w.heap.size w wr
  af : r = lstR l d f acc n
  fuel : l.length - n + 1 ≤ f
  le : n ≤ l.length
  cnt : acc.length ≤ n
theorem RLI.mv {w : World} {l : TL} {v : Value} {d : Nat} {r : ResL} {acc : List Ex} {n f : Nat} {x : Value} {wr wr' : World} (h : RLI w l v d r acc n f x wr) (hb : Below wr.heap.size wr wr') : RLI w l v d r acc n f x wr' :=
  ⟨h.tok.keep (Nat.le_refl _) (fun b i hx => hb.cell (p := ⟨b, i, none⟩) (Nat.lt_of_lt_of_le hx h.bel.size)), h.gr.bel hb, after h.bel hb, h.af, h.fuel, h.le, h.cnt⟩
theorem RLI.tk {w : World} {l : TL} {v : Value} {d : Nat} {r : ResL} {acc : List Ex} {n f : Nat} {x : Value} {wr : World} (h : RLI w l v d r acc n f x wr) : TokL wr wr.heap.size v l := h.tok.keep h.bel.size fun _ _ _ => rfl
set_option maxRecDepth 100000 in
set_option maxHeartbeats 4000000 in
theorem rlst_calls {w : World} {l : TL} {v : Value} (hT : TokL w w.heap.size v l) (hll : l.length ≤ 1000000) (i d : Nat) (hi : i ≤ l.length) (hd : d ≤ 9223372036854775807) :
    Calls Tryz.prog 15 #[v, .int .i64 (i : Int), .int .i64 (d : Int)] w (PostPL w (listR l i d)) := by
  obtain ⟨TA, Tc, rfl⟩ := hT.val
  have g1 : ¬ (i : Int) < 0 := by omega
  have g2 : ¬ (l.length : Int) < (i : Int) := by omega
  have g3 : ¬ (d : Int) < 0 := by omega
  have HT := Lib.hid hT
  unfold listR
  by_cases h1 : sgAt l i = [40]
  · have hil := sgAt_lt h1 (by simp)
    have q1 : (sgAt l i == [40]) = true := by rw [h1]; rfl
    rw [if_pos h1]
    by_cases h2 : sgAt l (i + 1) = [41]
    · rw [if_pos h2]
      have q2 : (sgAt l (i + 1) == [41]) = true := by rw [h2]; rfl
      clear hT
      go_enter Tryz.func15, Tryz.ntmps15
      try simp only [List.append_eq, List.cons_append, List.nil_append]
      go_wp2_with fail
      refine (rsg_is HT.out q1 (by simp) (by omega)).mono ?_
      rintro E w1 ⟨rfl, hb⟩
      have HB1 := Lib.hid hb
      have HT1 := Lib.hid (tokU HT.out hb)
      clear hb
      go_wp2_with fail
      refine (rsg_is HT1.out q2 (by simp) (by omega)).mono ?_
      rintro E w2 ⟨rfl, hb⟩
      have HB2 := Lib.hid (after HB1.out hb)
      clear hb
      go_wp2_with fail
      go_ret3
      exact ⟨none, 0, by rw [show ((i + 2 : Nat) : Int) = (i : Int) + 2 by omega]; rfl, er_nil _ _, HB2.out⟩
    · rw [if_neg h2]
      have q2 : (sgAt l (i + 1) == [41]) = false := beq_eq_false_iff_ne.2 h2
      have H0 := Lib.hid (show ∀ W, Below w.heap.size w W → RLI w l (.slice TA l.length Tc) d (lstR l d (l.length + 1) [] (i + 1)) [] (i + 1) (l.length + 1) (.slice none 0 0) W from fun W hb => ⟨hT.bel hb, S3.GrI.start S3.kE hb.size (fun _ => .bool false), hb, rfl, by omega, hil, Nat.zero_le _⟩)
      clear hT
      generalize lstR l d (l.length + 1) [] (i + 1) = r at *
      go_enter Tryz.func15, Tryz.ntmps15
      try simp only [List.append_eq, List.cons_append, List.nil_append]
      go_wp2_with fail
      refine (rsg_is HT.out q1 (by simp) (by omega)).mono ?_
      rintro E w1 ⟨rfl, hb⟩
      have HB1 := Lib.hid hb
      have HT1 := Lib.hid (tokU HT.out hb)
      clear hb
      go_wp2_with fail
      refine (rsg_is HT1.out q2 (by simp) (by omega)).mono ?_
      rintro E w2 ⟨rfl, hb⟩
      have H2 := Lib.hid (H0.out w2 (after HB1.out hb))
      clear hb H0 HT1 HB1
      go_wp2_with fail
      go_loopw [9, 10] (fun x nx wr => ∃ (acc : List Ex) (n f : Nat), nx = .int .i64 (n : Int) ∧ Hid (RLI w l (.slice TA l.length Tc) d r acc n f x wr) ∧ ∃ Ax cx, Hid (x = .slice Ax acc.length cx)) (fun _ nx _ => l.length + 1 - (intOf nx).toNat)
      case atStart => exact ⟨[], i + 1, l.length + 1, by go_num, H2, none, 0, Lib.hid rfl⟩
      case round =>
        clear H2
        obtain ⟨acc, n, f, rfl, HI, Ax, cx, HX⟩ := hrel
        have hnl := HI.out.le
        have hfu := HI.out.fuel
        have hcn := HI.out.cnt
        obtain ⟨f, rfl⟩ : ∃ f', f = f' + 1 := ⟨f - 1, by omega⟩
        have haf := HI.out.af
        rw [lstR_eq] at haf
        have hcd := cd_bin l n d 1
        have hwin := binR_within l n d 1 (by omega) hnl
        have hPc := rparse_calls HI.out.tk hll n d hnl hd
        rw [parseR_is] at hPc
        cases hr : binR l n d 1 with
        | bad j c =>
          rw [hr] at haf hcd hPc
          obtain rfl : r = .bad j c := haf
          have hq' : (c == 0) = false := beq_eq_false_iff_ne.2 hcd
          have HP := Lib.hid hPc
          clear hPc hr hwin
          go_wp2_with fail
          refine HP.out.mono ?_
          rintro E wa ⟨rfl, hb⟩
          have HBa := Lib.hid ((after HI.out.bel hb).alloc (Nat.le_trans HI.out.bel.size hb.size) (S3.eO zE (.slice none 0 0)))
          clear hb
          go_wp2_with fail
          go_ret3
          exact ⟨rfl, HBa.out⟩
        | ok e n' =>
          rw [hr] at haf hwin hPc
          simp only [Res.within] at hwin
          have HAF := Lib.hid haf
          have HP := Lib.hid hPc
          clear hPc hr hcd haf
          go_wp2_with fail
          refine HP.out.mono ?_
          rintro E wa ⟨A, k, c, rfl, ho, hE, hb⟩
          have b1 := S3.bal wa (S3.eO e (.slice A k c))
          have hbw := after hb b1
          have hEw := er_bel hE b1
          obtain ⟨g, cap, w8, r8, hG, hB8⟩ := ex_app HI.out.gr hbw ho hEw (by omega) 27
          have R8 := Lib.hid r8
          have HG := Lib.hid hG
          have HB8 := Lib.hid (((after HI.out.bel hbw)).trans hB8)
          have HT8 := Lib.hid ((HI.out.mv hbw).tok.bel hB8)
          have hsz8 := HB8.out.size
          rw [S3.sz1] at r8
          have R8 := Lib.hid r8
          clear hb b1 hbw hEw r8 hG hB8 ho hE HI
          go_wp2_with (at_builtin; refine Lib.wpList_append_run _ rfl _ _ _ _ rfl _ _ rfl rfl _ _ R8.out ?_)
          have HT9 := Lib.hid (HT8.out.keep (M' := w8.heap.size) hsz8 fun _ _ _ => rfl)
          have haf := HAF.out
          unfold aft at haf
          have hlen : (acc ++ [e]).length = acc.length + 1 := by simp
          clear HX HAF R8
          by_cases h44 : sgAt l n' = [44]
          · rw [if_pos h44] at haf
            have qa : (sgAt l n' == [41]) = false := by rw [h44]; rfl
            have qb : (sgAt l n' == [44]) = true := by rw [h44]; rfl
            have hl' := sgAt_lt h44 (by simp)
            have HN := Lib.hid (show RLI w l (.slice TA l.length Tc) d r (acc ++ [e]) (n' + 1) f (.slice (some ⟨g, 0, none⟩) (acc.length + 1) cap) w8 from ⟨HT8.out, HG.out, HB8.out, haf, by omega, hl', by rw [hlen]; omega⟩)
            clear haf hlen HG h44
            refine (rsg_is HT9.out qa (by simp) (by omega)).mono ?_
            rintro E wb ⟨rfl, hb⟩
            have HNb := Lib.hid (HN.out.mv hb)
            have HTb := Lib.hid (tokU HT9.out hb)
            clear hb HN
            go_wp2_with fail
            refine (rsg_is HTb.out qb (by simp) (by omega)).mono ?_
            rintro E wc ⟨rfl, hb⟩
            have HNc := Lib.hid (HNb.out.mv hb)
            clear hb HNb
            go_wp2_with fail
            go_roundw
            case rel => exact ⟨acc ++ [e], n' + 1, f, by go_num, HNc, _, _, Lib.hid (by rw [List.length_append]; rfl)⟩
            case measure => simp [intOf]; omega
          · rw [if_neg h44] at haf
            have qb : (sgAt l n' == [44]) = false := beq_eq_false_iff_ne.2 h44
            by_cases h41 : sgAt l n' = [41]
            · rw [if_pos h41] at haf
              subst haf
              have qa : (sgAt l n' == [41]) = true := by rw [h41]; rfl
              clear h44 h41
              refine (rsg_is HT9.out qa (by simp) (by omega)).mono ?_
              rintro E wb ⟨rfl, hb⟩
              have HGb := Lib.hid (er_gr (HG.out.bel hb) (by rw [hlen]; omega))
              have HBb := Lib.hid (after HB8.out hb)
              clear hb HG
              have HL := Lib.hid hlen
              clear hlen
              go_wp2_with fail
              go_ret3
              exact ⟨some ⟨g, 0, none⟩, cap, by rw [HL.out, show ((n' + 1 : Nat) : Int) = (n' : Int) + 1 by omega]; rfl, by rw [HL.out]; exact HGb.out, HBb.out⟩
            · rw [if_neg h41] at haf
              subst haf
              have qa : (sgAt l n' == [41]) = false := beq_eq_false_iff_ne.2 h41
              clear h44 h41 hlen HG
              refine (rsg_is HT9.out qa (by simp) (by omega)).mono ?_
              rintro E wb ⟨rfl, hb⟩
              have HBb := Lib.hid (after HB8.out hb)
              have HTb := Lib.hid (tokU HT9.out hb)
              clear hb
              go_wp2_with fail
              refine (rsg_is HTb.out qb (by simp) (by omega)).mono ?_
              rintro E wc ⟨rfl, hb⟩
              have HBc := Lib.hid (after HBb.out hb)
              clear hb
              go_wp2_with fail
              go_ret3
              exact ⟨rfl, HBc.out⟩
  · rw [if_neg h1]
    have q1 : (sgAt l i == [40]) = false := beq_eq_false_iff_ne.2 h1
    clear hT
    go_enter Tryz.func15, Tryz.ntmps15
    try simp only [List.append_eq, List.cons_append, List.nil_append]
    go_wp2_with fail
    refine (rsg_is HT.out q1 (by simp) (by omega)).mono ?_
    rintro E w1 ⟨rfl, hb⟩
    have HB1 := Lib.hid hb
    clear hb
    go_wp2_with fail
    go_ret3
    exact ⟨rfl, HB1.out⟩
end Go.Proofs.YtlhifbckmknijaaGreatDoor.E5
