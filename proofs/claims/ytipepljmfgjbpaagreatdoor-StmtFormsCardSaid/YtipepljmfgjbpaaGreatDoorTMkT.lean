/-
  The maker of statements: stmt, kind by kind. Written by gen6_mkt.py.
  The maker of statements: stmt, kind by kind. Written by gen6_mkt.py.
  The maker of statements: stmt, kind by kind. Written by gen6_mkt.py.
  The maker of statements: stmt, kind by kind. Written by gen6_mkt.py.
  The maker of statements: stmt, kind by kind. Written by gen6_mkt.py.
-/
import Derived.Test.YtipepljmfgjbpaaGreatDoorTMkG
namespace Go.Proofs.YtipepljmfgjbpaaGreatDoor.E6
open Go Go.RowKit Go.Proofs.YtipepljmfgjbpaaGreatDoor Go.Proofs.YtipepljmfgjbpaaGreatDoor.E5

abbrev sK (k : Int) : Obj := .cells #[.int .i64 k, .int .i64 0, .string ⟨#[]⟩, .int .i64 0, .string ⟨#[]⟩, .slice none 0 0, .slice none 0 0, .slice none 0 0] 27
theorem MidS.start {W w1 : World} {p M : Nat} {all cs cs' : List Nat} {left lf : Int} {out : TL} (h0 : MkI W p M all cs left out) (hI : MkI w1 p M all cs' left out) (hF : FrM p (W.alloc sZ) w1) (k : Int) :
    MidS W ((w1.setCell ⟨p, 2, none⟩ (.int .i64 lf)).alloc (sK k)) p M all cs' lf out w1.heap.size (.int .i64 k) (.int .i64 0) (.string ⟨#[]⟩) (.int .i64 0) (.string ⟨#[]⟩) (.slice none 0 0) (.slice none 0 0) (.slice none 0 0) := by
  have hp := h0.p_lt
  obtain ⟨⟨code, a, vo, h1, h2, h3, h4, h5⟩, hM⟩ := hI
  have hI2 := MkI.mk2 (left' := lf) hM h1 h3 h4 h5
  rw [← h2] at hI2
  have hF2 := ((FrM.al W sZ hp).trans hF).own (i := 2) (u := .int .i64 lf) (by decide)
  have hpt := (PtM.new h0 sZ (n := W.heap.size) (Nat.le_refl _)).mv hF
  obtain ⟨b0, b1, b2, b3, b4, b5, b6, b7, e⟩ := R8.new W (.int .i64 0) (.int .i64 0) (.string ⟨#[]⟩) (.int .i64 0) (.string ⟨#[]⟩) (.slice none 0 0) (.slice none 0 0) (.slice none 0 0)
  have e1 := ((PtM.new h0 sZ (n := W.heap.size) (Nat.le_refl _)).heap hF).trans e
  have hWp : W.heap.size ≠ p := by omega
  have e2 := (Below.heap_setCell w1 ⟨p, 2, none⟩ (.int .i64 lf) W.heap.size hWp).trans e1
  have hz : (w1.setCell ⟨p, 2, none⟩ (.int .i64 lf)).heap.size = w1.heap.size := by simp [World.setCell]
  have hp2 : p < (w1.setCell ⟨p, 2, none⟩ (.int .i64 lf)).heap.size := hI2.p_lt
  have hFa := FrM.al (w1.setCell ⟨p, 2, none⟩ (.int .i64 lf)) (sK k) hp2
  have hlt := hpt.2.1
  have hpt2 : PtM p W.heap.size (w1.setCell ⟨p, 2, none⟩ (.int .i64 lf)) W.heap.size := ⟨hpt.1, by omega, hpt.2.2.1, fun ⟨v, x1, x2⟩ => hpt.2.2.2 ⟨v, by
    have e := World.cell?_setCell_other (w := w1) (a := ⟨p, 2, none⟩) (b := ⟨p, 3, none⟩) (v := .int .i64 lf) (by intro e; injection e with _ e; omega)
    rw [e] at x1
    exact x1, x2⟩⟩
  have hnew := heap_alloc_new (w1.setCell ⟨p, 2, none⟩ (.int .i64 lf)) (sK k)
  have hptn := PtM.new hI2 (sK k) (n := W.heap.size + 1) (by omega)
  rw [hz] at hnew hptn
  exact ⟨⟨b0, b1, b2, b3, b4, b5, b6, b7, (hpt2.heap hFa).trans e2⟩, hpt2.mv hFa, hnew, hptn, hI2.al _, hF2.trans hFa, by have := h0.lt; omega⟩
theorem okI_n {k : Int} (h : 0 ≤ k ∧ k ≤ 1000) : S3.okI k := by unfold S3.okI; omega
theorem nmW_le (b : Nat) : (nmW b).length ≤ 9223372036854775807 := Nat.le_trans (nmW_len b) (by decide)
set_option maxRecDepth 100000 in
set_option maxHeartbeats 8000000 in
theorem stM_read1 {W : World} {p M lf : Nat} {all cs : List Nat} {out : TL} (h : MkI W p M all cs ((lf : Int) + 1) out) (hlf : lf ≤ 1000) (deep : Int) (hdz : deep ≤ 0) (hk : hdB cs % 10 = 4) (hlen : out.length + ([(3, wRead), (1, nmW (hdB (tlB cs))), tSemi]).length ≤ 1000000) :
    Calls Tryz.prog 12 #[mpt p, .int .i64 deep] W (StP W p M all out ⟨sRead (nmW (hdB (tlB cs))), [(3, wRead), (1, nmW (hdB (tlB cs))), tSemi], lf, tlB (tlB cs)⟩) := by
  have hp := h.p_lt
  have hby := h.byt.tl
  have h256 := h.byt.hd
  have H0 := Lib.hid h
  have C := Lib.hid (byteM (h.al sZ))
  have hwl : IntKind.i64.wrap (lf : Int) = (lf : Int) := IntWalk.i64_in _ (by omega)
  have qk : (hdB cs : Int) % 10 = 4 := by omega
  clear h
  generalize hb : hdB cs = b at *
  generalize hr : tlB cs = r at *
  go_enter Tryz.func12, Tryz.ntmps12
  try simp only [List.append_eq, List.cons_append, List.nil_append]
  go_wp2_with fail
  refine C.out.mono ?_
  rintro E w1 ⟨rfl, hI, hF⟩
  have HM2 := Lib.hid (MidS.start (lf := (lf : Int)) H0.out hI hF 5)
  have hz2 : ((w1.setCell ⟨p, 2, none⟩ (.int .i64 (lf : Int))).alloc (sK 5)).heap.size = w1.heap.size + 1 := by rw [S3.sz1]; simp [World.setCell]
  have hp1 := hI.p_lt
  have hq2 : w1.heap.size < ((w1.setCell ⟨p, 2, none⟩ (.int .i64 (lf : Int))).alloc (sK 5)).heap.size := by rw [hz2]; omega
  obtain ⟨j0, j1, j2, j3⟩ : w1.cell? ⟨p, 0, none⟩ = w1.cell? ⟨p, 0, none⟩ ∧ True ∧ w1.cell? ⟨p, 2, none⟩ = some (.int .i64 ((lf : Int) + 1)) ∧ w1.frozen? ⟨p, 2, none⟩ = false := by
    obtain ⟨⟨_, _, _, _, _, _, h4, _⟩, _⟩ := hI
    exact ⟨rfl, trivial, (mk_row h4).2.2.1, mk_froz h4⟩
  clear j0 j1 hI hF C H0
  obtain ⟨g0, g1, g2, g3, g4, g5, g6, g7⟩ := HM2.out.facts
  go_wp2_with fail
  generalize w1.heap.size = q at *
  generalize (w1.setCell ⟨p, 2, none⟩ (.int .i64 (lf : Int))).alloc (sK 5) = w2 at *
  have hS : StrL (w2.alloc (.cells #[.string ⟨#[114, 101, 97, 100]⟩] 9)) (w2.alloc (.cells #[.string ⟨#[114, 101, 97, 100]⟩] 9)).heap.size (.slice (some ⟨w2.heap.size, 0, none⟩) 1 1) [[114, 101, 97, 100]] := strL_new w2 [[114, 101, 97, 100]] 9 rfl
  have D := addM (HM2.out.mki.al (.cells #[.string ⟨#[114, 101, 97, 100]⟩] 9)) hS (by simp) (by first | omega | (simp; omega) | (simp at hlen ⊢; omega))
  rw [show List.map wtk [[114, 101, 97, 100]] = [(3, wRead)] by decide +kernel] at D
  rw [hz2] at D
  have D := Lib.hid D
  have HX := Lib.hid (HM2.out.al (.cells #[.string ⟨#[114, 101, 97, 100]⟩] 9))
  have hpx := HM2.out.p_lt
  refine D.out.mono ?_
  rintro E w3 ⟨rfl, hI, hF⟩
  have HM3 := Lib.hid (HX.out.step hI hF)
  clear hS D HX hpx hI hF HM2 hz2
  obtain ⟨g0, g1, g2, g3, g4, g5, g6, g7⟩ := HM3.out.facts
  have hqn := HM3.out.pt.2.1
  go_wp2_with fail
  have N := Lib.hid (nameM HM3.out.mki (by first | omega | (simp; omega) | (simp at hlen ⊢; omega)))
  refine N.out.mono ?_
  rintro E w4 ⟨rfl, hI, hF⟩
  have hM4 := HM3.out.step hI hF
  have z2 := hM4.froz (i := 2)
  obtain ⟨g0, g1, g2, g3, g4, g5, g6, g7⟩ := hM4.facts
  have hqm := hM4.pt.2.1
  have HM5 := Lib.hid (hM4.set2 (.string (B (nmW (hdB r)))))
  have hz5 : (w4.setCell ⟨q, 2, none⟩ (.string (B (nmW (hdB r))))).heap.size = w4.heap.size := by simp [World.setCell]
  clear N hI hF HM3 hM4
  go_wp2_with fail
  generalize w4.setCell ⟨q, 2, none⟩ (.string (B (nmW (hdB r)))) = w5 at *
  have hS : StrL (w5.alloc (.cells #[.string ⟨#[59]⟩] 9)) (w5.alloc (.cells #[.string ⟨#[59]⟩] 9)).heap.size (.slice (some ⟨w5.heap.size, 0, none⟩) 1 1) [[59]] := strL_new w5 [[59]] 9 rfl
  have D := addM (HM5.out.mki.al (.cells #[.string ⟨#[59]⟩] 9)) hS (by simp) (by first | omega | (simp; omega) | (simp at hlen ⊢; omega))
  rw [show List.map wtk [[59]] = [tSemi] by decide +kernel] at D
  rw [hz5] at D
  have D := Lib.hid D
  have HX := Lib.hid (HM5.out.al (.cells #[.string ⟨#[59]⟩] 9))
  have hpx := HM5.out.p_lt
  refine D.out.mono ?_
  rintro E w6 ⟨rfl, hI, hF⟩
  have HM6 := Lib.hid (HX.out.step hI hF)
  clear hS D HX hpx hI hF HM5 hz5
  obtain ⟨g0, g1, g2, g3, g4, g5, g6, g7⟩ := HM6.out.facts
  have hqm := HM6.out.pt.2.1
  obtain ⟨z0, z1, z2, z3, z4, z5, z6, z7, r0, r1, r2, r3, r4, r5, r6, r7, y0, y1, y2, y3, y4, y5, y6, y7⟩ := HM6.out.r8.facts
  have hq1 := HM6.out.r8.lt
  have HD := Lib.hid ((HM6.out.cast (out' := out ++ ([(3, wRead), (1, (nmW (hdB r))), tSemi])) (by first | rfl | simp only [List.append_assoc, List.cons_append, List.nil_append])).done (s := sRead (nmW (hdB r))) ⟨⟨okI_n (k := 5) ⟨by decide, by decide⟩, okI_n (k := 0) ⟨by decide, by decide⟩, okI_n (k := 0) ⟨by decide, by decide⟩, nmW_le _, by simp⟩, S3.ER.nil none 0, S3.SR.nil none 0, S3.SR.nil none 0⟩ (.int .i64 5) (.int .i64 0) (.string (B (nmW (hdB r)))) (.int .i64 0) (.string ⟨#[]⟩) (.slice none 0 0) (.slice none 0 0) (.slice none 0 0))
  clear HM6
  go_wp2_with fail
  exact bodyPost_ret (v := S3.sV (sRead (nmW (hdB r))) (.slice none 0 0) (.slice none 0 0) (.slice none 0 0)) (by simp [results, Tryz.results12, go_sem, r0, r1, r2, r3, r4, r5, r6, r7]) rfl HD.out
set_option maxRecDepth 100000 in
set_option maxHeartbeats 8000000 in
theorem stM_read0 {W : World} {p M lf : Nat} {all cs : List Nat} {out : TL} (h : MkI W p M all cs ((lf : Int) + 1) out) (hlf : lf ≤ 1000) (deep : Int) (hdz : ¬ deep ≤ 0) (hk : hdB cs % 10 = 4) (hlen : out.length + ([(3, wRead), (1, nmW (hdB (tlB cs))), tSemi]).length ≤ 1000000) :
    Calls Tryz.prog 12 #[mpt p, .int .i64 deep] W (StP W p M all out ⟨sRead (nmW (hdB (tlB cs))), [(3, wRead), (1, nmW (hdB (tlB cs))), tSemi], lf, tlB (tlB cs)⟩) := by
  have hp := h.p_lt
  have hby := h.byt.tl
  have h256 := h.byt.hd
  have H0 := Lib.hid h
  have C := Lib.hid (byteM (h.al sZ))
  have hwl : IntKind.i64.wrap (lf : Int) = (lf : Int) := IntWalk.i64_in _ (by omega)
  have qk : (hdB cs : Int) % 10 = 4 := by omega
  clear h
  generalize hb : hdB cs = b at *
  generalize hr : tlB cs = r at *
  go_enter Tryz.func12, Tryz.ntmps12
  try simp only [List.append_eq, List.cons_append, List.nil_append]
  go_wp2_with fail
  refine C.out.mono ?_
  rintro E w1 ⟨rfl, hI, hF⟩
  have HM2 := Lib.hid (MidS.start (lf := (lf : Int)) H0.out hI hF 5)
  have hz2 : ((w1.setCell ⟨p, 2, none⟩ (.int .i64 (lf : Int))).alloc (sK 5)).heap.size = w1.heap.size + 1 := by rw [S3.sz1]; simp [World.setCell]
  have hp1 := hI.p_lt
  have hq2 : w1.heap.size < ((w1.setCell ⟨p, 2, none⟩ (.int .i64 (lf : Int))).alloc (sK 5)).heap.size := by rw [hz2]; omega
  obtain ⟨j0, j1, j2, j3⟩ : w1.cell? ⟨p, 0, none⟩ = w1.cell? ⟨p, 0, none⟩ ∧ True ∧ w1.cell? ⟨p, 2, none⟩ = some (.int .i64 ((lf : Int) + 1)) ∧ w1.frozen? ⟨p, 2, none⟩ = false := by
    obtain ⟨⟨_, _, _, _, _, _, h4, _⟩, _⟩ := hI
    exact ⟨rfl, trivial, (mk_row h4).2.2.1, mk_froz h4⟩
  clear j0 j1 hI hF C H0
  obtain ⟨g0, g1, g2, g3, g4, g5, g6, g7⟩ := HM2.out.facts
  go_wp2_with fail
  generalize w1.heap.size = q at *
  generalize (w1.setCell ⟨p, 2, none⟩ (.int .i64 (lf : Int))).alloc (sK 5) = w2 at *
  have hS : StrL (w2.alloc (.cells #[.string ⟨#[114, 101, 97, 100]⟩] 9)) (w2.alloc (.cells #[.string ⟨#[114, 101, 97, 100]⟩] 9)).heap.size (.slice (some ⟨w2.heap.size, 0, none⟩) 1 1) [[114, 101, 97, 100]] := strL_new w2 [[114, 101, 97, 100]] 9 rfl
  have D := addM (HM2.out.mki.al (.cells #[.string ⟨#[114, 101, 97, 100]⟩] 9)) hS (by simp) (by first | omega | (simp; omega) | (simp at hlen ⊢; omega))
  rw [show List.map wtk [[114, 101, 97, 100]] = [(3, wRead)] by decide +kernel] at D
  rw [hz2] at D
  have D := Lib.hid D
  have HX := Lib.hid (HM2.out.al (.cells #[.string ⟨#[114, 101, 97, 100]⟩] 9))
  have hpx := HM2.out.p_lt
  refine D.out.mono ?_
  rintro E w3 ⟨rfl, hI, hF⟩
  have HM3 := Lib.hid (HX.out.step hI hF)
  clear hS D HX hpx hI hF HM2 hz2
  obtain ⟨g0, g1, g2, g3, g4, g5, g6, g7⟩ := HM3.out.facts
  have hqn := HM3.out.pt.2.1
  go_wp2_with fail
  have N := Lib.hid (nameM HM3.out.mki (by first | omega | (simp; omega) | (simp at hlen ⊢; omega)))
  refine N.out.mono ?_
  rintro E w4 ⟨rfl, hI, hF⟩
  have hM4 := HM3.out.step hI hF
  have z2 := hM4.froz (i := 2)
  obtain ⟨g0, g1, g2, g3, g4, g5, g6, g7⟩ := hM4.facts
  have hqm := hM4.pt.2.1
  have HM5 := Lib.hid (hM4.set2 (.string (B (nmW (hdB r)))))
  have hz5 : (w4.setCell ⟨q, 2, none⟩ (.string (B (nmW (hdB r))))).heap.size = w4.heap.size := by simp [World.setCell]
  clear N hI hF HM3 hM4
  go_wp2_with fail
  generalize w4.setCell ⟨q, 2, none⟩ (.string (B (nmW (hdB r)))) = w5 at *
  have hS : StrL (w5.alloc (.cells #[.string ⟨#[59]⟩] 9)) (w5.alloc (.cells #[.string ⟨#[59]⟩] 9)).heap.size (.slice (some ⟨w5.heap.size, 0, none⟩) 1 1) [[59]] := strL_new w5 [[59]] 9 rfl
  have D := addM (HM5.out.mki.al (.cells #[.string ⟨#[59]⟩] 9)) hS (by simp) (by first | omega | (simp; omega) | (simp at hlen ⊢; omega))
  rw [show List.map wtk [[59]] = [tSemi] by decide +kernel] at D
  rw [hz5] at D
  have D := Lib.hid D
  have HX := Lib.hid (HM5.out.al (.cells #[.string ⟨#[59]⟩] 9))
  have hpx := HM5.out.p_lt
  refine D.out.mono ?_
  rintro E w6 ⟨rfl, hI, hF⟩
  have HM6 := Lib.hid (HX.out.step hI hF)
  clear hS D HX hpx hI hF HM5 hz5
  obtain ⟨g0, g1, g2, g3, g4, g5, g6, g7⟩ := HM6.out.facts
  have hqm := HM6.out.pt.2.1
  obtain ⟨z0, z1, z2, z3, z4, z5, z6, z7, r0, r1, r2, r3, r4, r5, r6, r7, y0, y1, y2, y3, y4, y5, y6, y7⟩ := HM6.out.r8.facts
  have hq1 := HM6.out.r8.lt
  have HD := Lib.hid ((HM6.out.cast (out' := out ++ ([(3, wRead), (1, (nmW (hdB r))), tSemi])) (by first | rfl | simp only [List.append_assoc, List.cons_append, List.nil_append])).done (s := sRead (nmW (hdB r))) ⟨⟨okI_n (k := 5) ⟨by decide, by decide⟩, okI_n (k := 0) ⟨by decide, by decide⟩, okI_n (k := 0) ⟨by decide, by decide⟩, nmW_le _, by simp⟩, S3.ER.nil none 0, S3.SR.nil none 0, S3.SR.nil none 0⟩ (.int .i64 5) (.int .i64 0) (.string (B (nmW (hdB r)))) (.int .i64 0) (.string ⟨#[]⟩) (.slice none 0 0) (.slice none 0 0) (.slice none 0 0))
  clear HM6
  go_wp2_with fail
  exact bodyPost_ret (v := S3.sV (sRead (nmW (hdB r))) (.slice none 0 0) (.slice none 0 0) (.slice none 0 0)) (by simp [results, Tryz.results12, go_sem, r0, r1, r2, r3, r4, r5, r6, r7]) rfl HD.out
set_option maxRecDepth 100000 in
set_option maxHeartbeats 8000000 in
theorem stM_print1 {W : World} {p M lf : Nat} {all cs : List Nat} {out : TL} (h : MkI W p M all cs ((lf : Int) + 1) out) (hlf : lf ≤ 1000) (deep : Int) (hdz : deep ≤ 0) (hk : hdB cs % 10 = 5) (hlen : out.length + ((3, wPrint) :: ((mkT 2 (tlB cs)).1.tk ++ [tSemi])).length ≤ 1000000) :
    Calls Tryz.prog 12 #[mpt p, .int .i64 deep] W (StP W p M all out ⟨sPrint (mkT 2 (tlB cs)).1.ex, (3, wPrint) :: ((mkT 2 (tlB cs)).1.tk ++ [tSemi]), lf, (mkT 2 (tlB cs)).2⟩) := by
  have hp := h.p_lt
  have hby := h.byt.tl
  have h256 := h.byt.hd
  have H0 := Lib.hid h
  have C := Lib.hid (byteM (h.al sZ))
  have hwl : IntKind.i64.wrap (lf : Int) = (lf : Int) := IntWalk.i64_in _ (by omega)
  have qk : (hdB cs : Int) % 10 = 5 := by omega
  clear h
  generalize hb : hdB cs = b at *
  generalize hr : tlB cs = r at *
  go_enter Tryz.func12, Tryz.ntmps12
  try simp only [List.append_eq, List.cons_append, List.nil_append]
  go_wp2_with fail
  refine C.out.mono ?_
  rintro E w1 ⟨rfl, hI, hF⟩
  have HM2 := Lib.hid (MidS.start (lf := (lf : Int)) H0.out hI hF 6)
  have hz2 : ((w1.setCell ⟨p, 2, none⟩ (.int .i64 (lf : Int))).alloc (sK 6)).heap.size = w1.heap.size + 1 := by rw [S3.sz1]; simp [World.setCell]
  have hp1 := hI.p_lt
  have hq2 : w1.heap.size < ((w1.setCell ⟨p, 2, none⟩ (.int .i64 (lf : Int))).alloc (sK 6)).heap.size := by rw [hz2]; omega
  obtain ⟨j0, j1, j2, j3⟩ : w1.cell? ⟨p, 0, none⟩ = w1.cell? ⟨p, 0, none⟩ ∧ True ∧ w1.cell? ⟨p, 2, none⟩ = some (.int .i64 ((lf : Int) + 1)) ∧ w1.frozen? ⟨p, 2, none⟩ = false := by
    obtain ⟨⟨_, _, _, _, _, _, h4, _⟩, _⟩ := hI
    exact ⟨rfl, trivial, (mk_row h4).2.2.1, mk_froz h4⟩
  clear j0 j1 hI hF C H0
  obtain ⟨g0, g1, g2, g3, g4, g5, g6, g7⟩ := HM2.out.facts
  go_wp2_with fail
  generalize w1.heap.size = q at *
  generalize (w1.setCell ⟨p, 2, none⟩ (.int .i64 (lf : Int))).alloc (sK 6) = w2 at *
  have hS : StrL (w2.alloc (.cells #[.string ⟨#[112, 114, 105, 110, 116]⟩] 9)) (w2.alloc (.cells #[.string ⟨#[112, 114, 105, 110, 116]⟩] 9)).heap.size (.slice (some ⟨w2.heap.size, 0, none⟩) 1 1) [[112, 114, 105, 110, 116]] := strL_new w2 [[112, 114, 105, 110, 116]] 9 rfl
  have D := addM (HM2.out.mki.al (.cells #[.string ⟨#[112, 114, 105, 110, 116]⟩] 9)) hS (by simp) (by first | omega | (simp; omega) | (simp at hlen ⊢; omega))
  rw [show List.map wtk [[112, 114, 105, 110, 116]] = [(3, wPrint)] by decide +kernel] at D
  rw [hz2] at D
  have D := Lib.hid D
  have HX := Lib.hid (HM2.out.al (.cells #[.string ⟨#[112, 114, 105, 110, 116]⟩] 9))
  have hpx := HM2.out.p_lt
  refine D.out.mono ?_
  rintro E w3 ⟨rfl, hI, hF⟩
  have HM3 := Lib.hid (HX.out.step hI hF)
  clear hS D HX hpx hI hF HM2 hz2
  have X := exprM_all 2 (by omega) false w3 p M all _ _ _ HM3.out.mki (by first | (rw [tokT_false]; simp at hlen ⊢; omega) | (rw [tokT_false]; simp; omega))
  rw [show ((2 : Nat) : Int) + 1 = 3 from rfl, tokT_false] at X
  have hok := tr_okE6 (mkT_ok 2 r (by first | exact hby | exact hby.tl | exact hby.tl.tl)).1
  generalize hrr : mkT 2 r = rr at *
  have X := Lib.hid X
  have hqx : q < w3.heap.size := HM3.out.pt.2.1
  obtain ⟨g0, g1, g2, g3, g4, g5, g6, g7⟩ := HM3.out.facts
  have hqn := HM3.out.pt.2.1
  go_wp2_with fail
  refine X.out.mono ?_
  rintro E w4 ⟨A, kk, c, rfl, hEr, hI, hF⟩
  have hM4 := HM3.out.step hI hF
  have z5 := hM4.froz (i := 5)
  obtain ⟨g0, g1, g2, g3, g4, g5, g6, g7⟩ := hM4.facts
  have hqm := hM4.pt.2.1
  obtain ⟨i1, i2, hz5⟩ := hM4.one hEr hqx hok
  have HM5 := Lib.hid i1
  have HE := Lib.hid i2
  clear hI hF hEr hok X i1 i2 HM3 hM4
  go_wp2_with fail
  generalize (w4.setCell ⟨q, 5, none⟩ (.slice (some ⟨w4.heap.size, 0, none⟩) 1 1)).alloc (S3.eO rr.1.ex (.slice A kk c)) = w5 at *
  have hS : StrL (w5.alloc (.cells #[.string ⟨#[59]⟩] 9)) (w5.alloc (.cells #[.string ⟨#[59]⟩] 9)).heap.size (.slice (some ⟨w5.heap.size, 0, none⟩) 1 1) [[59]] := strL_new w5 [[59]] 9 rfl
  have D := addM (HM5.out.mki.al (.cells #[.string ⟨#[59]⟩] 9)) hS (by simp) (by first | omega | (simp; omega) | (simp at hlen ⊢; omega))
  rw [show List.map wtk [[59]] = [tSemi] by decide +kernel] at D
  rw [hz5] at D
  have D := Lib.hid D
  have HX := Lib.hid (HM5.out.al (.cells #[.string ⟨#[59]⟩] 9))
  have hpx := HM5.out.p_lt
  refine D.out.mono ?_
  rintro E w6 ⟨rfl, hI, hF⟩
  have HM6 := Lib.hid (HX.out.step hI hF)
  have HE := Lib.hid (er_frm' HE.out ((FrM.al _ _ hpx).trans hF))
  clear hS D HX hpx hI hF HM5 hz5
  obtain ⟨g0, g1, g2, g3, g4, g5, g6, g7⟩ := HM6.out.facts
  have hqm := HM6.out.pt.2.1
  obtain ⟨z0, z1, z2, z3, z4, z5, z6, z7, r0, r1, r2, r3, r4, r5, r6, r7, y0, y1, y2, y3, y4, y5, y6, y7⟩ := HM6.out.r8.facts
  have hq1 := HM6.out.r8.lt
  have HD := Lib.hid ((HM6.out.cast (out' := out ++ ((3, wPrint) :: (rr.1.tk ++ [tSemi]))) (by first | rfl | simp only [List.append_assoc, List.cons_append, List.nil_append])).done (s := sPrint rr.1.ex) ⟨⟨okI_n (k := 6) ⟨by decide, by decide⟩, okI_n (k := 0) ⟨by decide, by decide⟩, okI_n (k := 0) ⟨by decide, by decide⟩, by simp, by simp⟩, HE.out, S3.SR.nil none 0, S3.SR.nil none 0⟩ (.int .i64 6) (.int .i64 0) (.string ⟨#[]⟩) (.int .i64 0) (.string ⟨#[]⟩) (.slice (some ⟨w4.heap.size, 0, none⟩) 1 1) (.slice none 0 0) (.slice none 0 0))
  clear HM6
  go_wp2_with fail
  exact bodyPost_ret (v := S3.sV (sPrint rr.1.ex) (.slice (some ⟨w4.heap.size, 0, none⟩) 1 1) (.slice none 0 0) (.slice none 0 0)) (by simp [results, Tryz.results12, go_sem, r0, r1, r2, r3, r4, r5, r6, r7]) rfl HD.out
set_option maxRecDepth 100000 in
set_option maxHeartbeats 8000000 in
theorem stM_print0 {W : World} {p M lf : Nat} {all cs : List Nat} {out : TL} (h : MkI W p M all cs ((lf : Int) + 1) out) (hlf : lf ≤ 1000) (deep : Int) (hdz : ¬ deep ≤ 0) (hk : hdB cs % 10 = 5) (hlen : out.length + ((3, wPrint) :: ((mkT 2 (tlB cs)).1.tk ++ [tSemi])).length ≤ 1000000) :
    Calls Tryz.prog 12 #[mpt p, .int .i64 deep] W (StP W p M all out ⟨sPrint (mkT 2 (tlB cs)).1.ex, (3, wPrint) :: ((mkT 2 (tlB cs)).1.tk ++ [tSemi]), lf, (mkT 2 (tlB cs)).2⟩) := by
  have hp := h.p_lt
  have hby := h.byt.tl
  have h256 := h.byt.hd
  have H0 := Lib.hid h
  have C := Lib.hid (byteM (h.al sZ))
  have hwl : IntKind.i64.wrap (lf : Int) = (lf : Int) := IntWalk.i64_in _ (by omega)
  have qk : (hdB cs : Int) % 10 = 5 := by omega
  clear h
  generalize hb : hdB cs = b at *
  generalize hr : tlB cs = r at *
  go_enter Tryz.func12, Tryz.ntmps12
  try simp only [List.append_eq, List.cons_append, List.nil_append]
  go_wp2_with fail
  refine C.out.mono ?_
  rintro E w1 ⟨rfl, hI, hF⟩
  have HM2 := Lib.hid (MidS.start (lf := (lf : Int)) H0.out hI hF 6)
  have hz2 : ((w1.setCell ⟨p, 2, none⟩ (.int .i64 (lf : Int))).alloc (sK 6)).heap.size = w1.heap.size + 1 := by rw [S3.sz1]; simp [World.setCell]
  have hp1 := hI.p_lt
  have hq2 : w1.heap.size < ((w1.setCell ⟨p, 2, none⟩ (.int .i64 (lf : Int))).alloc (sK 6)).heap.size := by rw [hz2]; omega
  obtain ⟨j0, j1, j2, j3⟩ : w1.cell? ⟨p, 0, none⟩ = w1.cell? ⟨p, 0, none⟩ ∧ True ∧ w1.cell? ⟨p, 2, none⟩ = some (.int .i64 ((lf : Int) + 1)) ∧ w1.frozen? ⟨p, 2, none⟩ = false := by
    obtain ⟨⟨_, _, _, _, _, _, h4, _⟩, _⟩ := hI
    exact ⟨rfl, trivial, (mk_row h4).2.2.1, mk_froz h4⟩
  clear j0 j1 hI hF C H0
  obtain ⟨g0, g1, g2, g3, g4, g5, g6, g7⟩ := HM2.out.facts
  go_wp2_with fail
  generalize w1.heap.size = q at *
  generalize (w1.setCell ⟨p, 2, none⟩ (.int .i64 (lf : Int))).alloc (sK 6) = w2 at *
  have hS : StrL (w2.alloc (.cells #[.string ⟨#[112, 114, 105, 110, 116]⟩] 9)) (w2.alloc (.cells #[.string ⟨#[112, 114, 105, 110, 116]⟩] 9)).heap.size (.slice (some ⟨w2.heap.size, 0, none⟩) 1 1) [[112, 114, 105, 110, 116]] := strL_new w2 [[112, 114, 105, 110, 116]] 9 rfl
  have D := addM (HM2.out.mki.al (.cells #[.string ⟨#[112, 114, 105, 110, 116]⟩] 9)) hS (by simp) (by first | omega | (simp; omega) | (simp at hlen ⊢; omega))
  rw [show List.map wtk [[112, 114, 105, 110, 116]] = [(3, wPrint)] by decide +kernel] at D
  rw [hz2] at D
  have D := Lib.hid D
  have HX := Lib.hid (HM2.out.al (.cells #[.string ⟨#[112, 114, 105, 110, 116]⟩] 9))
  have hpx := HM2.out.p_lt
  refine D.out.mono ?_
  rintro E w3 ⟨rfl, hI, hF⟩
  have HM3 := Lib.hid (HX.out.step hI hF)
  clear hS D HX hpx hI hF HM2 hz2
  have X := exprM_all 2 (by omega) false w3 p M all _ _ _ HM3.out.mki (by first | (rw [tokT_false]; simp at hlen ⊢; omega) | (rw [tokT_false]; simp; omega))
  rw [show ((2 : Nat) : Int) + 1 = 3 from rfl, tokT_false] at X
  have hok := tr_okE6 (mkT_ok 2 r (by first | exact hby | exact hby.tl | exact hby.tl.tl)).1
  generalize hrr : mkT 2 r = rr at *
  have X := Lib.hid X
  have hqx : q < w3.heap.size := HM3.out.pt.2.1
  obtain ⟨g0, g1, g2, g3, g4, g5, g6, g7⟩ := HM3.out.facts
  have hqn := HM3.out.pt.2.1
  go_wp2_with fail
  refine X.out.mono ?_
  rintro E w4 ⟨A, kk, c, rfl, hEr, hI, hF⟩
  have hM4 := HM3.out.step hI hF
  have z5 := hM4.froz (i := 5)
  obtain ⟨g0, g1, g2, g3, g4, g5, g6, g7⟩ := hM4.facts
  have hqm := hM4.pt.2.1
  obtain ⟨i1, i2, hz5⟩ := hM4.one hEr hqx hok
  have HM5 := Lib.hid i1
  have HE := Lib.hid i2
  clear hI hF hEr hok X i1 i2 HM3 hM4
  go_wp2_with fail
  generalize (w4.setCell ⟨q, 5, none⟩ (.slice (some ⟨w4.heap.size, 0, none⟩) 1 1)).alloc (S3.eO rr.1.ex (.slice A kk c)) = w5 at *
  have hS : StrL (w5.alloc (.cells #[.string ⟨#[59]⟩] 9)) (w5.alloc (.cells #[.string ⟨#[59]⟩] 9)).heap.size (.slice (some ⟨w5.heap.size, 0, none⟩) 1 1) [[59]] := strL_new w5 [[59]] 9 rfl
  have D := addM (HM5.out.mki.al (.cells #[.string ⟨#[59]⟩] 9)) hS (by simp) (by first | omega | (simp; omega) | (simp at hlen ⊢; omega))
  rw [show List.map wtk [[59]] = [tSemi] by decide +kernel] at D
  rw [hz5] at D
  have D := Lib.hid D
  have HX := Lib.hid (HM5.out.al (.cells #[.string ⟨#[59]⟩] 9))
  have hpx := HM5.out.p_lt
  refine D.out.mono ?_
  rintro E w6 ⟨rfl, hI, hF⟩
  have HM6 := Lib.hid (HX.out.step hI hF)
  have HE := Lib.hid (er_frm' HE.out ((FrM.al _ _ hpx).trans hF))
  clear hS D HX hpx hI hF HM5 hz5
  obtain ⟨g0, g1, g2, g3, g4, g5, g6, g7⟩ := HM6.out.facts
  have hqm := HM6.out.pt.2.1
  obtain ⟨z0, z1, z2, z3, z4, z5, z6, z7, r0, r1, r2, r3, r4, r5, r6, r7, y0, y1, y2, y3, y4, y5, y6, y7⟩ := HM6.out.r8.facts
  have hq1 := HM6.out.r8.lt
  have HD := Lib.hid ((HM6.out.cast (out' := out ++ ((3, wPrint) :: (rr.1.tk ++ [tSemi]))) (by first | rfl | simp only [List.append_assoc, List.cons_append, List.nil_append])).done (s := sPrint rr.1.ex) ⟨⟨okI_n (k := 6) ⟨by decide, by decide⟩, okI_n (k := 0) ⟨by decide, by decide⟩, okI_n (k := 0) ⟨by decide, by decide⟩, by simp, by simp⟩, HE.out, S3.SR.nil none 0, S3.SR.nil none 0⟩ (.int .i64 6) (.int .i64 0) (.string ⟨#[]⟩) (.int .i64 0) (.string ⟨#[]⟩) (.slice (some ⟨w4.heap.size, 0, none⟩) 1 1) (.slice none 0 0) (.slice none 0 0))
  clear HM6
  go_wp2_with fail
  exact bodyPost_ret (v := S3.sV (sPrint rr.1.ex) (.slice (some ⟨w4.heap.size, 0, none⟩) 1 1) (.slice none 0 0) (.slice none 0 0)) (by simp [results, Tryz.results12, go_sem, r0, r1, r2, r3, r4, r5, r6, r7]) rfl HD.out
set_option maxRecDepth 100000 in
set_option maxHeartbeats 8000000 in
theorem stM_ret10 {W : World} {p M lf : Nat} {all cs : List Nat} {out : TL} (h : MkI W p M all cs ((lf : Int) + 1) out) (hlf : lf ≤ 1000) (deep : Int) (hdz : deep ≤ 0) (hk : hdB cs % 10 = 7) (hm : ¬ 128 ≤ hdB cs) (hlen : out.length + ([(3, wReturn), tSemi]).length ≤ 1000000) :
    Calls Tryz.prog 12 #[mpt p, .int .i64 deep] W (StP W p M all out ⟨sRet [], [(3, wReturn), tSemi], lf, tlB cs⟩) := by
  have hp := h.p_lt
  have hby := h.byt.tl
  have h256 := h.byt.hd
  have H0 := Lib.hid h
  have C := Lib.hid (byteM (h.al sZ))
  have hwl : IntKind.i64.wrap (lf : Int) = (lf : Int) := IntWalk.i64_in _ (by omega)
  have qk : (hdB cs : Int) % 10 = 7 := by omega
  have qm : ¬ (128 : Int) ≤ (hdB cs : Int) := by omega
  clear h
  generalize hb : hdB cs = b at *
  generalize hr : tlB cs = r at *
  go_enter Tryz.func12, Tryz.ntmps12
  try simp only [List.append_eq, List.cons_append, List.nil_append]
  go_wp2_with fail
  refine C.out.mono ?_
  rintro E w1 ⟨rfl, hI, hF⟩
  have HM2 := Lib.hid (MidS.start (lf := (lf : Int)) H0.out hI hF 8)
  have hz2 : ((w1.setCell ⟨p, 2, none⟩ (.int .i64 (lf : Int))).alloc (sK 8)).heap.size = w1.heap.size + 1 := by rw [S3.sz1]; simp [World.setCell]
  have hp1 := hI.p_lt
  have hq2 : w1.heap.size < ((w1.setCell ⟨p, 2, none⟩ (.int .i64 (lf : Int))).alloc (sK 8)).heap.size := by rw [hz2]; omega
  obtain ⟨j0, j1, j2, j3⟩ : w1.cell? ⟨p, 0, none⟩ = w1.cell? ⟨p, 0, none⟩ ∧ True ∧ w1.cell? ⟨p, 2, none⟩ = some (.int .i64 ((lf : Int) + 1)) ∧ w1.frozen? ⟨p, 2, none⟩ = false := by
    obtain ⟨⟨_, _, _, _, _, _, h4, _⟩, _⟩ := hI
    exact ⟨rfl, trivial, (mk_row h4).2.2.1, mk_froz h4⟩
  clear j0 j1 hI hF C H0
  obtain ⟨g0, g1, g2, g3, g4, g5, g6, g7⟩ := HM2.out.facts
  go_wp2_with fail
  generalize w1.heap.size = q at *
  generalize (w1.setCell ⟨p, 2, none⟩ (.int .i64 (lf : Int))).alloc (sK 8) = w2 at *
  have hS : StrL (w2.alloc (.cells #[.string ⟨#[114, 101, 116, 117, 114, 110]⟩] 9)) (w2.alloc (.cells #[.string ⟨#[114, 101, 116, 117, 114, 110]⟩] 9)).heap.size (.slice (some ⟨w2.heap.size, 0, none⟩) 1 1) [[114, 101, 116, 117, 114, 110]] := strL_new w2 [[114, 101, 116, 117, 114, 110]] 9 rfl
  have D := addM (HM2.out.mki.al (.cells #[.string ⟨#[114, 101, 116, 117, 114, 110]⟩] 9)) hS (by simp) (by first | omega | (simp; omega) | (simp at hlen ⊢; omega))
  rw [show List.map wtk [[114, 101, 116, 117, 114, 110]] = [(3, wReturn)] by decide +kernel] at D
  rw [hz2] at D
  have D := Lib.hid D
  have HX := Lib.hid (HM2.out.al (.cells #[.string ⟨#[114, 101, 116, 117, 114, 110]⟩] 9))
  have hpx := HM2.out.p_lt
  refine D.out.mono ?_
  rintro E w3 ⟨rfl, hI, hF⟩
  have HM3 := Lib.hid (HX.out.step hI hF)
  clear hS D HX hpx hI hF HM2 hz2
  obtain ⟨g0, g1, g2, g3, g4, g5, g6, g7⟩ := HM3.out.facts
  have hqn := HM3.out.pt.2.1
  go_wp2_with fail
  have hS : StrL (w3.alloc (.cells #[.string ⟨#[59]⟩] 9)) (w3.alloc (.cells #[.string ⟨#[59]⟩] 9)).heap.size (.slice (some ⟨w3.heap.size, 0, none⟩) 1 1) [[59]] := strL_new w3 [[59]] 9 rfl
  have D := addM (HM3.out.mki.al (.cells #[.string ⟨#[59]⟩] 9)) hS (by simp) (by first | omega | (simp; omega) | (simp at hlen ⊢; omega))
  rw [show List.map wtk [[59]] = [tSemi] by decide +kernel] at D
  have D := Lib.hid D
  have HX := Lib.hid (HM3.out.al (.cells #[.string ⟨#[59]⟩] 9))
  have hpx := HM3.out.p_lt
  refine D.out.mono ?_
  rintro E w4 ⟨rfl, hI, hF⟩
  have HM4 := Lib.hid (HX.out.step hI hF)
  clear hS D HX hpx hI hF HM3
  obtain ⟨g0, g1, g2, g3, g4, g5, g6, g7⟩ := HM4.out.facts
  have hqm := HM4.out.pt.2.1
  obtain ⟨z0, z1, z2, z3, z4, z5, z6, z7, r0, r1, r2, r3, r4, r5, r6, r7, y0, y1, y2, y3, y4, y5, y6, y7⟩ := HM4.out.r8.facts
  have hq1 := HM4.out.r8.lt
  have HD := Lib.hid ((HM4.out.cast (out' := out ++ ([(3, wReturn), tSemi])) (by first | rfl | simp only [List.append_assoc, List.cons_append, List.nil_append])).done (s := sRet []) ⟨⟨okI_n (k := 8) ⟨by decide, by decide⟩, okI_n (k := 0) ⟨by decide, by decide⟩, okI_n (k := 0) ⟨by decide, by decide⟩, by simp, by simp⟩, S3.ER.nil none 0, S3.SR.nil none 0, S3.SR.nil none 0⟩ (.int .i64 8) (.int .i64 0) (.string ⟨#[]⟩) (.int .i64 0) (.string ⟨#[]⟩) (.slice none 0 0) (.slice none 0 0) (.slice none 0 0))
  clear HM4
  go_wp2_with fail
  exact bodyPost_ret (v := S3.sV (sRet []) (.slice none 0 0) (.slice none 0 0) (.slice none 0 0)) (by simp [results, Tryz.results12, go_sem, r0, r1, r2, r3, r4, r5, r6, r7]) rfl HD.out
set_option maxRecDepth 100000 in
set_option maxHeartbeats 8000000 in
theorem stM_ret00 {W : World} {p M lf : Nat} {all cs : List Nat} {out : TL} (h : MkI W p M all cs ((lf : Int) + 1) out) (hlf : lf ≤ 1000) (deep : Int) (hdz : ¬ deep ≤ 0) (hk : hdB cs % 10 = 7) (hm : ¬ 128 ≤ hdB cs) (hlen : out.length + ([(3, wReturn), tSemi]).length ≤ 1000000) :
    Calls Tryz.prog 12 #[mpt p, .int .i64 deep] W (StP W p M all out ⟨sRet [], [(3, wReturn), tSemi], lf, tlB cs⟩) := by
  have hp := h.p_lt
  have hby := h.byt.tl
  have h256 := h.byt.hd
  have H0 := Lib.hid h
  have C := Lib.hid (byteM (h.al sZ))
  have hwl : IntKind.i64.wrap (lf : Int) = (lf : Int) := IntWalk.i64_in _ (by omega)
  have qk : (hdB cs : Int) % 10 = 7 := by omega
  have qm : ¬ (128 : Int) ≤ (hdB cs : Int) := by omega
  clear h
  generalize hb : hdB cs = b at *
  generalize hr : tlB cs = r at *
  go_enter Tryz.func12, Tryz.ntmps12
  try simp only [List.append_eq, List.cons_append, List.nil_append]
  go_wp2_with fail
  refine C.out.mono ?_
  rintro E w1 ⟨rfl, hI, hF⟩
  have HM2 := Lib.hid (MidS.start (lf := (lf : Int)) H0.out hI hF 8)
  have hz2 : ((w1.setCell ⟨p, 2, none⟩ (.int .i64 (lf : Int))).alloc (sK 8)).heap.size = w1.heap.size + 1 := by rw [S3.sz1]; simp [World.setCell]
  have hp1 := hI.p_lt
  have hq2 : w1.heap.size < ((w1.setCell ⟨p, 2, none⟩ (.int .i64 (lf : Int))).alloc (sK 8)).heap.size := by rw [hz2]; omega
  obtain ⟨j0, j1, j2, j3⟩ : w1.cell? ⟨p, 0, none⟩ = w1.cell? ⟨p, 0, none⟩ ∧ True ∧ w1.cell? ⟨p, 2, none⟩ = some (.int .i64 ((lf : Int) + 1)) ∧ w1.frozen? ⟨p, 2, none⟩ = false := by
    obtain ⟨⟨_, _, _, _, _, _, h4, _⟩, _⟩ := hI
    exact ⟨rfl, trivial, (mk_row h4).2.2.1, mk_froz h4⟩
  clear j0 j1 hI hF C H0
  obtain ⟨g0, g1, g2, g3, g4, g5, g6, g7⟩ := HM2.out.facts
  go_wp2_with fail
  generalize w1.heap.size = q at *
  generalize (w1.setCell ⟨p, 2, none⟩ (.int .i64 (lf : Int))).alloc (sK 8) = w2 at *
  have hS : StrL (w2.alloc (.cells #[.string ⟨#[114, 101, 116, 117, 114, 110]⟩] 9)) (w2.alloc (.cells #[.string ⟨#[114, 101, 116, 117, 114, 110]⟩] 9)).heap.size (.slice (some ⟨w2.heap.size, 0, none⟩) 1 1) [[114, 101, 116, 117, 114, 110]] := strL_new w2 [[114, 101, 116, 117, 114, 110]] 9 rfl
  have D := addM (HM2.out.mki.al (.cells #[.string ⟨#[114, 101, 116, 117, 114, 110]⟩] 9)) hS (by simp) (by first | omega | (simp; omega) | (simp at hlen ⊢; omega))
  rw [show List.map wtk [[114, 101, 116, 117, 114, 110]] = [(3, wReturn)] by decide +kernel] at D
  rw [hz2] at D
  have D := Lib.hid D
  have HX := Lib.hid (HM2.out.al (.cells #[.string ⟨#[114, 101, 116, 117, 114, 110]⟩] 9))
  have hpx := HM2.out.p_lt
  refine D.out.mono ?_
  rintro E w3 ⟨rfl, hI, hF⟩
  have HM3 := Lib.hid (HX.out.step hI hF)
  clear hS D HX hpx hI hF HM2 hz2
  obtain ⟨g0, g1, g2, g3, g4, g5, g6, g7⟩ := HM3.out.facts
  have hqn := HM3.out.pt.2.1
  go_wp2_with fail
  have hS : StrL (w3.alloc (.cells #[.string ⟨#[59]⟩] 9)) (w3.alloc (.cells #[.string ⟨#[59]⟩] 9)).heap.size (.slice (some ⟨w3.heap.size, 0, none⟩) 1 1) [[59]] := strL_new w3 [[59]] 9 rfl
  have D := addM (HM3.out.mki.al (.cells #[.string ⟨#[59]⟩] 9)) hS (by simp) (by first | omega | (simp; omega) | (simp at hlen ⊢; omega))
  rw [show List.map wtk [[59]] = [tSemi] by decide +kernel] at D
  have D := Lib.hid D
  have HX := Lib.hid (HM3.out.al (.cells #[.string ⟨#[59]⟩] 9))
  have hpx := HM3.out.p_lt
  refine D.out.mono ?_
  rintro E w4 ⟨rfl, hI, hF⟩
  have HM4 := Lib.hid (HX.out.step hI hF)
  clear hS D HX hpx hI hF HM3
  obtain ⟨g0, g1, g2, g3, g4, g5, g6, g7⟩ := HM4.out.facts
  have hqm := HM4.out.pt.2.1
  obtain ⟨z0, z1, z2, z3, z4, z5, z6, z7, r0, r1, r2, r3, r4, r5, r6, r7, y0, y1, y2, y3, y4, y5, y6, y7⟩ := HM4.out.r8.facts
  have hq1 := HM4.out.r8.lt
  have HD := Lib.hid ((HM4.out.cast (out' := out ++ ([(3, wReturn), tSemi])) (by first | rfl | simp only [List.append_assoc, List.cons_append, List.nil_append])).done (s := sRet []) ⟨⟨okI_n (k := 8) ⟨by decide, by decide⟩, okI_n (k := 0) ⟨by decide, by decide⟩, okI_n (k := 0) ⟨by decide, by decide⟩, by simp, by simp⟩, S3.ER.nil none 0, S3.SR.nil none 0, S3.SR.nil none 0⟩ (.int .i64 8) (.int .i64 0) (.string ⟨#[]⟩) (.int .i64 0) (.string ⟨#[]⟩) (.slice none 0 0) (.slice none 0 0) (.slice none 0 0))
  clear HM4
  go_wp2_with fail
  exact bodyPost_ret (v := S3.sV (sRet []) (.slice none 0 0) (.slice none 0 0) (.slice none 0 0)) (by simp [results, Tryz.results12, go_sem, r0, r1, r2, r3, r4, r5, r6, r7]) rfl HD.out
set_option maxRecDepth 100000 in
set_option maxHeartbeats 8000000 in
theorem stM_ret11 {W : World} {p M lf : Nat} {all cs : List Nat} {out : TL} (h : MkI W p M all cs ((lf : Int) + 1) out) (hlf : lf ≤ 1000) (deep : Int) (hdz : deep ≤ 0) (hk : hdB cs % 10 = 7) (hm : 128 ≤ hdB cs) (hlen : out.length + ((3, wReturn) :: ((mkT 2 (tlB cs)).1.tk ++ [tSemi])).length ≤ 1000000) :
    Calls Tryz.prog 12 #[mpt p, .int .i64 deep] W (StP W p M all out ⟨sRet [(mkT 2 (tlB cs)).1.ex], (3, wReturn) :: ((mkT 2 (tlB cs)).1.tk ++ [tSemi]), lf, (mkT 2 (tlB cs)).2⟩) := by
  have hp := h.p_lt
  have hby := h.byt.tl
  have h256 := h.byt.hd
  have H0 := Lib.hid h
  have C := Lib.hid (byteM (h.al sZ))
  have hwl : IntKind.i64.wrap (lf : Int) = (lf : Int) := IntWalk.i64_in _ (by omega)
  have qk : (hdB cs : Int) % 10 = 7 := by omega
  have qm : (128 : Int) ≤ (hdB cs : Int) := by omega
  clear h
  generalize hb : hdB cs = b at *
  generalize hr : tlB cs = r at *
  go_enter Tryz.func12, Tryz.ntmps12
  try simp only [List.append_eq, List.cons_append, List.nil_append]
  go_wp2_with fail
  refine C.out.mono ?_
  rintro E w1 ⟨rfl, hI, hF⟩
  have HM2 := Lib.hid (MidS.start (lf := (lf : Int)) H0.out hI hF 8)
  have hz2 : ((w1.setCell ⟨p, 2, none⟩ (.int .i64 (lf : Int))).alloc (sK 8)).heap.size = w1.heap.size + 1 := by rw [S3.sz1]; simp [World.setCell]
  have hp1 := hI.p_lt
  have hq2 : w1.heap.size < ((w1.setCell ⟨p, 2, none⟩ (.int .i64 (lf : Int))).alloc (sK 8)).heap.size := by rw [hz2]; omega
  obtain ⟨j0, j1, j2, j3⟩ : w1.cell? ⟨p, 0, none⟩ = w1.cell? ⟨p, 0, none⟩ ∧ True ∧ w1.cell? ⟨p, 2, none⟩ = some (.int .i64 ((lf : Int) + 1)) ∧ w1.frozen? ⟨p, 2, none⟩ = false := by
    obtain ⟨⟨_, _, _, _, _, _, h4, _⟩, _⟩ := hI
    exact ⟨rfl, trivial, (mk_row h4).2.2.1, mk_froz h4⟩
  clear j0 j1 hI hF C H0
  obtain ⟨g0, g1, g2, g3, g4, g5, g6, g7⟩ := HM2.out.facts
  go_wp2_with fail
  generalize w1.heap.size = q at *
  generalize (w1.setCell ⟨p, 2, none⟩ (.int .i64 (lf : Int))).alloc (sK 8) = w2 at *
  have hS : StrL (w2.alloc (.cells #[.string ⟨#[114, 101, 116, 117, 114, 110]⟩] 9)) (w2.alloc (.cells #[.string ⟨#[114, 101, 116, 117, 114, 110]⟩] 9)).heap.size (.slice (some ⟨w2.heap.size, 0, none⟩) 1 1) [[114, 101, 116, 117, 114, 110]] := strL_new w2 [[114, 101, 116, 117, 114, 110]] 9 rfl
  have D := addM (HM2.out.mki.al (.cells #[.string ⟨#[114, 101, 116, 117, 114, 110]⟩] 9)) hS (by simp) (by first | omega | (simp; omega) | (simp at hlen ⊢; omega))
  rw [show List.map wtk [[114, 101, 116, 117, 114, 110]] = [(3, wReturn)] by decide +kernel] at D
  rw [hz2] at D
  have D := Lib.hid D
  have HX := Lib.hid (HM2.out.al (.cells #[.string ⟨#[114, 101, 116, 117, 114, 110]⟩] 9))
  have hpx := HM2.out.p_lt
  refine D.out.mono ?_
  rintro E w3 ⟨rfl, hI, hF⟩
  have HM3 := Lib.hid (HX.out.step hI hF)
  clear hS D HX hpx hI hF HM2 hz2
  have X := exprM_all 2 (by omega) false w3 p M all _ _ _ HM3.out.mki (by first | (rw [tokT_false]; simp at hlen ⊢; omega) | (rw [tokT_false]; simp; omega))
  rw [show ((2 : Nat) : Int) + 1 = 3 from rfl, tokT_false] at X
  have hok := tr_okE6 (mkT_ok 2 r (by first | exact hby | exact hby.tl | exact hby.tl.tl)).1
  generalize hrr : mkT 2 r = rr at *
  have X := Lib.hid X
  have hqx : q < w3.heap.size := HM3.out.pt.2.1
  obtain ⟨g0, g1, g2, g3, g4, g5, g6, g7⟩ := HM3.out.facts
  have hqn := HM3.out.pt.2.1
  go_wp2_with fail
  refine X.out.mono ?_
  rintro E w4 ⟨A, kk, c, rfl, hEr, hI, hF⟩
  have hM4 := HM3.out.step hI hF
  have z5 := hM4.froz (i := 5)
  obtain ⟨g0, g1, g2, g3, g4, g5, g6, g7⟩ := hM4.facts
  have hqm := hM4.pt.2.1
  obtain ⟨i1, i2, hz5⟩ := hM4.one hEr hqx hok
  have HM5 := Lib.hid i1
  have HE := Lib.hid i2
  clear hI hF hEr hok X i1 i2 HM3 hM4
  go_wp2_with fail
  generalize (w4.setCell ⟨q, 5, none⟩ (.slice (some ⟨w4.heap.size, 0, none⟩) 1 1)).alloc (S3.eO rr.1.ex (.slice A kk c)) = w5 at *
  have hS : StrL (w5.alloc (.cells #[.string ⟨#[59]⟩] 9)) (w5.alloc (.cells #[.string ⟨#[59]⟩] 9)).heap.size (.slice (some ⟨w5.heap.size, 0, none⟩) 1 1) [[59]] := strL_new w5 [[59]] 9 rfl
  have D := addM (HM5.out.mki.al (.cells #[.string ⟨#[59]⟩] 9)) hS (by simp) (by first | omega | (simp; omega) | (simp at hlen ⊢; omega))
  rw [show List.map wtk [[59]] = [tSemi] by decide +kernel] at D
  rw [hz5] at D
  have D := Lib.hid D
  have HX := Lib.hid (HM5.out.al (.cells #[.string ⟨#[59]⟩] 9))
  have hpx := HM5.out.p_lt
  refine D.out.mono ?_
  rintro E w6 ⟨rfl, hI, hF⟩
  have HM6 := Lib.hid (HX.out.step hI hF)
  have HE := Lib.hid (er_frm' HE.out ((FrM.al _ _ hpx).trans hF))
  clear hS D HX hpx hI hF HM5 hz5
  obtain ⟨g0, g1, g2, g3, g4, g5, g6, g7⟩ := HM6.out.facts
  have hqm := HM6.out.pt.2.1
  obtain ⟨z0, z1, z2, z3, z4, z5, z6, z7, r0, r1, r2, r3, r4, r5, r6, r7, y0, y1, y2, y3, y4, y5, y6, y7⟩ := HM6.out.r8.facts
  have hq1 := HM6.out.r8.lt
  have HD := Lib.hid ((HM6.out.cast (out' := out ++ ((3, wReturn) :: (rr.1.tk ++ [tSemi]))) (by first | rfl | simp only [List.append_assoc, List.cons_append, List.nil_append])).done (s := sRet [rr.1.ex]) ⟨⟨okI_n (k := 8) ⟨by decide, by decide⟩, okI_n (k := 0) ⟨by decide, by decide⟩, okI_n (k := 0) ⟨by decide, by decide⟩, by simp, by simp⟩, HE.out, S3.SR.nil none 0, S3.SR.nil none 0⟩ (.int .i64 8) (.int .i64 0) (.string ⟨#[]⟩) (.int .i64 0) (.string ⟨#[]⟩) (.slice (some ⟨w4.heap.size, 0, none⟩) 1 1) (.slice none 0 0) (.slice none 0 0))
  clear HM6
  go_wp2_with fail
  exact bodyPost_ret (v := S3.sV (sRet [rr.1.ex]) (.slice (some ⟨w4.heap.size, 0, none⟩) 1 1) (.slice none 0 0) (.slice none 0 0)) (by simp [results, Tryz.results12, go_sem, r0, r1, r2, r3, r4, r5, r6, r7]) rfl HD.out
set_option maxRecDepth 100000 in
set_option maxHeartbeats 8000000 in
theorem stM_ret01 {W : World} {p M lf : Nat} {all cs : List Nat} {out : TL} (h : MkI W p M all cs ((lf : Int) + 1) out) (hlf : lf ≤ 1000) (deep : Int) (hdz : ¬ deep ≤ 0) (hk : hdB cs % 10 = 7) (hm : 128 ≤ hdB cs) (hlen : out.length + ((3, wReturn) :: ((mkT 2 (tlB cs)).1.tk ++ [tSemi])).length ≤ 1000000) :
    Calls Tryz.prog 12 #[mpt p, .int .i64 deep] W (StP W p M all out ⟨sRet [(mkT 2 (tlB cs)).1.ex], (3, wReturn) :: ((mkT 2 (tlB cs)).1.tk ++ [tSemi]), lf, (mkT 2 (tlB cs)).2⟩) := by
  have hp := h.p_lt
  have hby := h.byt.tl
  have h256 := h.byt.hd
  have H0 := Lib.hid h
  have C := Lib.hid (byteM (h.al sZ))
  have hwl : IntKind.i64.wrap (lf : Int) = (lf : Int) := IntWalk.i64_in _ (by omega)
  have qk : (hdB cs : Int) % 10 = 7 := by omega
  have qm : (128 : Int) ≤ (hdB cs : Int) := by omega
  clear h
  generalize hb : hdB cs = b at *
  generalize hr : tlB cs = r at *
  go_enter Tryz.func12, Tryz.ntmps12
  try simp only [List.append_eq, List.cons_append, List.nil_append]
  go_wp2_with fail
  refine C.out.mono ?_
  rintro E w1 ⟨rfl, hI, hF⟩
  have HM2 := Lib.hid (MidS.start (lf := (lf : Int)) H0.out hI hF 8)
  have hz2 : ((w1.setCell ⟨p, 2, none⟩ (.int .i64 (lf : Int))).alloc (sK 8)).heap.size = w1.heap.size + 1 := by rw [S3.sz1]; simp [World.setCell]
  have hp1 := hI.p_lt
  have hq2 : w1.heap.size < ((w1.setCell ⟨p, 2, none⟩ (.int .i64 (lf : Int))).alloc (sK 8)).heap.size := by rw [hz2]; omega
  obtain ⟨j0, j1, j2, j3⟩ : w1.cell? ⟨p, 0, none⟩ = w1.cell? ⟨p, 0, none⟩ ∧ True ∧ w1.cell? ⟨p, 2, none⟩ = some (.int .i64 ((lf : Int) + 1)) ∧ w1.frozen? ⟨p, 2, none⟩ = false := by
    obtain ⟨⟨_, _, _, _, _, _, h4, _⟩, _⟩ := hI
    exact ⟨rfl, trivial, (mk_row h4).2.2.1, mk_froz h4⟩
  clear j0 j1 hI hF C H0
  obtain ⟨g0, g1, g2, g3, g4, g5, g6, g7⟩ := HM2.out.facts
  go_wp2_with fail
  generalize w1.heap.size = q at *
  generalize (w1.setCell ⟨p, 2, none⟩ (.int .i64 (lf : Int))).alloc (sK 8) = w2 at *
  have hS : StrL (w2.alloc (.cells #[.string ⟨#[114, 101, 116, 117, 114, 110]⟩] 9)) (w2.alloc (.cells #[.string ⟨#[114, 101, 116, 117, 114, 110]⟩] 9)).heap.size (.slice (some ⟨w2.heap.size, 0, none⟩) 1 1) [[114, 101, 116, 117, 114, 110]] := strL_new w2 [[114, 101, 116, 117, 114, 110]] 9 rfl
  have D := addM (HM2.out.mki.al (.cells #[.string ⟨#[114, 101, 116, 117, 114, 110]⟩] 9)) hS (by simp) (by first | omega | (simp; omega) | (simp at hlen ⊢; omega))
  rw [show List.map wtk [[114, 101, 116, 117, 114, 110]] = [(3, wReturn)] by decide +kernel] at D
  rw [hz2] at D
  have D := Lib.hid D
  have HX := Lib.hid (HM2.out.al (.cells #[.string ⟨#[114, 101, 116, 117, 114, 110]⟩] 9))
  have hpx := HM2.out.p_lt
  refine D.out.mono ?_
  rintro E w3 ⟨rfl, hI, hF⟩
  have HM3 := Lib.hid (HX.out.step hI hF)
  clear hS D HX hpx hI hF HM2 hz2
  have X := exprM_all 2 (by omega) false w3 p M all _ _ _ HM3.out.mki (by first | (rw [tokT_false]; simp at hlen ⊢; omega) | (rw [tokT_false]; simp; omega))
  rw [show ((2 : Nat) : Int) + 1 = 3 from rfl, tokT_false] at X
  have hok := tr_okE6 (mkT_ok 2 r (by first | exact hby | exact hby.tl | exact hby.tl.tl)).1
  generalize hrr : mkT 2 r = rr at *
  have X := Lib.hid X
  have hqx : q < w3.heap.size := HM3.out.pt.2.1
  obtain ⟨g0, g1, g2, g3, g4, g5, g6, g7⟩ := HM3.out.facts
  have hqn := HM3.out.pt.2.1
  go_wp2_with fail
  refine X.out.mono ?_
  rintro E w4 ⟨A, kk, c, rfl, hEr, hI, hF⟩
  have hM4 := HM3.out.step hI hF
  have z5 := hM4.froz (i := 5)
  obtain ⟨g0, g1, g2, g3, g4, g5, g6, g7⟩ := hM4.facts
  have hqm := hM4.pt.2.1
  obtain ⟨i1, i2, hz5⟩ := hM4.one hEr hqx hok
  have HM5 := Lib.hid i1
  have HE := Lib.hid i2
  clear hI hF hEr hok X i1 i2 HM3 hM4
  go_wp2_with fail
  generalize (w4.setCell ⟨q, 5, none⟩ (.slice (some ⟨w4.heap.size, 0, none⟩) 1 1)).alloc (S3.eO rr.1.ex (.slice A kk c)) = w5 at *
  have hS : StrL (w5.alloc (.cells #[.string ⟨#[59]⟩] 9)) (w5.alloc (.cells #[.string ⟨#[59]⟩] 9)).heap.size (.slice (some ⟨w5.heap.size, 0, none⟩) 1 1) [[59]] := strL_new w5 [[59]] 9 rfl
  have D := addM (HM5.out.mki.al (.cells #[.string ⟨#[59]⟩] 9)) hS (by simp) (by first | omega | (simp; omega) | (simp at hlen ⊢; omega))
  rw [show List.map wtk [[59]] = [tSemi] by decide +kernel] at D
  rw [hz5] at D
  have D := Lib.hid D
  have HX := Lib.hid (HM5.out.al (.cells #[.string ⟨#[59]⟩] 9))
  have hpx := HM5.out.p_lt
  refine D.out.mono ?_
  rintro E w6 ⟨rfl, hI, hF⟩
  have HM6 := Lib.hid (HX.out.step hI hF)
  have HE := Lib.hid (er_frm' HE.out ((FrM.al _ _ hpx).trans hF))
  clear hS D HX hpx hI hF HM5 hz5
  obtain ⟨g0, g1, g2, g3, g4, g5, g6, g7⟩ := HM6.out.facts
  have hqm := HM6.out.pt.2.1
  obtain ⟨z0, z1, z2, z3, z4, z5, z6, z7, r0, r1, r2, r3, r4, r5, r6, r7, y0, y1, y2, y3, y4, y5, y6, y7⟩ := HM6.out.r8.facts
  have hq1 := HM6.out.r8.lt
  have HD := Lib.hid ((HM6.out.cast (out' := out ++ ((3, wReturn) :: (rr.1.tk ++ [tSemi]))) (by first | rfl | simp only [List.append_assoc, List.cons_append, List.nil_append])).done (s := sRet [rr.1.ex]) ⟨⟨okI_n (k := 8) ⟨by decide, by decide⟩, okI_n (k := 0) ⟨by decide, by decide⟩, okI_n (k := 0) ⟨by decide, by decide⟩, by simp, by simp⟩, HE.out, S3.SR.nil none 0, S3.SR.nil none 0⟩ (.int .i64 8) (.int .i64 0) (.string ⟨#[]⟩) (.int .i64 0) (.string ⟨#[]⟩) (.slice (some ⟨w4.heap.size, 0, none⟩) 1 1) (.slice none 0 0) (.slice none 0 0))
  clear HM6
  go_wp2_with fail
  exact bodyPost_ret (v := S3.sV (sRet [rr.1.ex]) (.slice (some ⟨w4.heap.size, 0, none⟩) 1 1) (.slice none 0 0) (.slice none 0 0)) (by simp [results, Tryz.results12, go_sem, r0, r1, r2, r3, r4, r5, r6, r7]) rfl HD.out
end Go.Proofs.YtipepljmfgjbpaaGreatDoor.E6

namespace Go.Proofs.YtipepljmfgjbpaaGreatDoor.E6
open Go Go.RowKit Go.Proofs.YtipepljmfgjbpaaGreatDoor Go.Proofs.YtipepljmfgjbpaaGreatDoor.E5

set_option maxRecDepth 100000 in
set_option maxHeartbeats 8000000 in
theorem stM_set1 {W : World} {p M lf : Nat} {all cs : List Nat} {out : TL} (h : MkI W p M all cs ((lf : Int) + 1) out) (hlf : lf ≤ 1000) (deep : Int) (hdz : deep ≤ 0) (hk : hdB cs % 10 = 1) (hlen : out.length + ((1, nmW (hdB (tlB cs))) :: tEq :: ((mkT 2 (tlB (tlB cs))).1.tk ++ [tSemi])).length ≤ 1000000) :
    Calls Tryz.prog 12 #[mpt p, .int .i64 deep] W (StP W p M all out ⟨sSet (nmW (hdB (tlB cs))) (mkT 2 (tlB (tlB cs))).1.ex, (1, nmW (hdB (tlB cs))) :: tEq :: ((mkT 2 (tlB (tlB cs))).1.tk ++ [tSemi]), lf, (mkT 2 (tlB (tlB cs))).2⟩) := by
  have hp := h.p_lt
  have hby := h.byt.tl
  have h256 := h.byt.hd
  have H0 := Lib.hid h
  have C := Lib.hid (byteM (h.al sZ))
  have hwl : IntKind.i64.wrap (lf : Int) = (lf : Int) := IntWalk.i64_in _ (by omega)
  have qk : (hdB cs : Int) % 10 = 1 := by omega
  clear h
  generalize hb : hdB cs = b at *
  generalize hr : tlB cs = r at *
  go_enter Tryz.func12, Tryz.ntmps12
  try simp only [List.append_eq, List.cons_append, List.nil_append]
  go_wp2_with fail
  refine C.out.mono ?_
  rintro E w1 ⟨rfl, hI, hF⟩
  have HM2 := Lib.hid (MidS.start (lf := (lf : Int)) H0.out hI hF 2)
  have hz2 : ((w1.setCell ⟨p, 2, none⟩ (.int .i64 (lf : Int))).alloc (sK 2)).heap.size = w1.heap.size + 1 := by rw [S3.sz1]; simp [World.setCell]
  have hp1 := hI.p_lt
  have hq2 : w1.heap.size < ((w1.setCell ⟨p, 2, none⟩ (.int .i64 (lf : Int))).alloc (sK 2)).heap.size := by rw [hz2]; omega
  obtain ⟨j0, j1, j2, j3⟩ : w1.cell? ⟨p, 0, none⟩ = w1.cell? ⟨p, 0, none⟩ ∧ True ∧ w1.cell? ⟨p, 2, none⟩ = some (.int .i64 ((lf : Int) + 1)) ∧ w1.frozen? ⟨p, 2, none⟩ = false := by
    obtain ⟨⟨_, _, _, _, _, _, h4, _⟩, _⟩ := hI
    exact ⟨rfl, trivial, (mk_row h4).2.2.1, mk_froz h4⟩
  clear j0 j1 hI hF C H0
  obtain ⟨g0, g1, g2, g3, g4, g5, g6, g7⟩ := HM2.out.facts
  go_wp2_with fail
  generalize w1.heap.size = q at *
  generalize (w1.setCell ⟨p, 2, none⟩ (.int .i64 (lf : Int))).alloc (sK 2) = w2 at *
  have hqq := HM2.out.pt.2.1
  have N := Lib.hid (nameM HM2.out.mki (by first | omega | (simp; omega) | (simp at hlen ⊢; omega)))
  refine N.out.mono ?_
  rintro E w3 ⟨rfl, hI, hF⟩
  have hM3 := HM2.out.step hI hF
  have z2 := hM3.froz (i := 2)
  obtain ⟨g0, g1, g2, g3, g4, g5, g6, g7⟩ := hM3.facts
  have hqm := hM3.pt.2.1
  have HM4 := Lib.hid (hM3.set2 (.string (B (nmW (hdB r)))))
  have hz4 : (w3.setCell ⟨q, 2, none⟩ (.string (B (nmW (hdB r))))).heap.size = w3.heap.size := by simp [World.setCell]
  clear N hI hF HM2 hM3
  go_wp2_with fail
  generalize w3.setCell ⟨q, 2, none⟩ (.string (B (nmW (hdB r)))) = w4 at *
  have hS : StrL (w4.alloc (.cells #[.string ⟨#[61]⟩] 9)) (w4.alloc (.cells #[.string ⟨#[61]⟩] 9)).heap.size (.slice (some ⟨w4.heap.size, 0, none⟩) 1 1) [[61]] := strL_new w4 [[61]] 9 rfl
  have D := addM (HM4.out.mki.al (.cells #[.string ⟨#[61]⟩] 9)) hS (by simp) (by first | omega | (simp; omega) | (simp at hlen ⊢; omega))
  rw [show List.map wtk [[61]] = [tEq] by decide +kernel] at D
  rw [hz4] at D
  have D := Lib.hid D
  have HX := Lib.hid (HM4.out.al (.cells #[.string ⟨#[61]⟩] 9))
  have hpx := HM4.out.p_lt
  refine D.out.mono ?_
  rintro E w5 ⟨rfl, hI, hF⟩
  have HM5 := Lib.hid (HX.out.step hI hF)
  clear hS D HX hpx hI hF HM4 hz4
  have X := exprM_all 2 (by omega) false w5 p M all _ _ _ HM5.out.mki (by first | (rw [tokT_false]; simp at hlen ⊢; omega) | (rw [tokT_false]; simp; omega))
  rw [show ((2 : Nat) : Int) + 1 = 3 from rfl, tokT_false] at X
  have hok := tr_okE6 (mkT_ok 2 (tlB r) (by first | exact hby | exact hby.tl | exact hby.tl.tl)).1
  generalize hrr : mkT 2 (tlB r) = rr at *
  have X := Lib.hid X
  have hqx : q < w5.heap.size := HM5.out.pt.2.1
  obtain ⟨g0, g1, g2, g3, g4, g5, g6, g7⟩ := HM5.out.facts
  have hqn := HM5.out.pt.2.1
  go_wp2_with fail
  refine X.out.mono ?_
  rintro E w6 ⟨A, kk, c, rfl, hEr, hI, hF⟩
  have hM6 := HM5.out.step hI hF
  have z5 := hM6.froz (i := 5)
  obtain ⟨g0, g1, g2, g3, g4, g5, g6, g7⟩ := hM6.facts
  have hqm := hM6.pt.2.1
  obtain ⟨i1, i2, hz7⟩ := hM6.one hEr hqx hok
  have HM7 := Lib.hid i1
  have HE := Lib.hid i2
  clear hI hF hEr hok X i1 i2 HM5 hM6
  go_wp2_with fail
  generalize (w6.setCell ⟨q, 5, none⟩ (.slice (some ⟨w6.heap.size, 0, none⟩) 1 1)).alloc (S3.eO rr.1.ex (.slice A kk c)) = w7 at *
  have hS : StrL (w7.alloc (.cells #[.string ⟨#[59]⟩] 9)) (w7.alloc (.cells #[.string ⟨#[59]⟩] 9)).heap.size (.slice (some ⟨w7.heap.size, 0, none⟩) 1 1) [[59]] := strL_new w7 [[59]] 9 rfl
  have D := addM (HM7.out.mki.al (.cells #[.string ⟨#[59]⟩] 9)) hS (by simp) (by first | omega | (simp; omega) | (simp at hlen ⊢; omega))
  rw [show List.map wtk [[59]] = [tSemi] by decide +kernel] at D
  rw [hz7] at D
  have D := Lib.hid D
  have HX := Lib.hid (HM7.out.al (.cells #[.string ⟨#[59]⟩] 9))
  have hpx := HM7.out.p_lt
  refine D.out.mono ?_
  rintro E w8 ⟨rfl, hI, hF⟩
  have HM8 := Lib.hid (HX.out.step hI hF)
  have HE := Lib.hid (er_frm' HE.out ((FrM.al _ _ hpx).trans hF))
  clear hS D HX hpx hI hF HM7 hz7
  obtain ⟨g0, g1, g2, g3, g4, g5, g6, g7⟩ := HM8.out.facts
  have hqm := HM8.out.pt.2.1
  obtain ⟨z0, z1, z2, z3, z4, z5, z6, z7, r0, r1, r2, r3, r4, r5, r6, r7, y0, y1, y2, y3, y4, y5, y6, y7⟩ := HM8.out.r8.facts
  have hq1 := HM8.out.r8.lt
  have HD := Lib.hid ((HM8.out.cast (out' := out ++ ((1, (nmW (hdB r))) :: tEq :: (rr.1.tk ++ [tSemi]))) (by first | rfl | simp only [List.append_assoc, List.cons_append, List.nil_append])).done (s := sSet (nmW (hdB r)) rr.1.ex) ⟨⟨okI_n (k := 2) ⟨by decide, by decide⟩, okI_n (k := 0) ⟨by decide, by decide⟩, okI_n (k := 0) ⟨by decide, by decide⟩, nmW_le _, by simp⟩, HE.out, S3.SR.nil none 0, S3.SR.nil none 0⟩ (.int .i64 2) (.int .i64 0) (.string (B (nmW (hdB r)))) (.int .i64 0) (.string ⟨#[]⟩) (.slice (some ⟨w6.heap.size, 0, none⟩) 1 1) (.slice none 0 0) (.slice none 0 0))
  clear HM8
  go_wp2_with fail
  exact bodyPost_ret (v := S3.sV (sSet (nmW (hdB r)) rr.1.ex) (.slice (some ⟨w6.heap.size, 0, none⟩) 1 1) (.slice none 0 0) (.slice none 0 0)) (by simp [results, Tryz.results12, go_sem, r0, r1, r2, r3, r4, r5, r6, r7]) rfl HD.out
set_option maxRecDepth 100000 in
set_option maxHeartbeats 8000000 in
theorem stM_set0 {W : World} {p M lf : Nat} {all cs : List Nat} {out : TL} (h : MkI W p M all cs ((lf : Int) + 1) out) (hlf : lf ≤ 1000) (deep : Int) (hdz : ¬ deep ≤ 0) (hk : hdB cs % 10 = 1) (hlen : out.length + ((1, nmW (hdB (tlB cs))) :: tEq :: ((mkT 2 (tlB (tlB cs))).1.tk ++ [tSemi])).length ≤ 1000000) :
    Calls Tryz.prog 12 #[mpt p, .int .i64 deep] W (StP W p M all out ⟨sSet (nmW (hdB (tlB cs))) (mkT 2 (tlB (tlB cs))).1.ex, (1, nmW (hdB (tlB cs))) :: tEq :: ((mkT 2 (tlB (tlB cs))).1.tk ++ [tSemi]), lf, (mkT 2 (tlB (tlB cs))).2⟩) := by
  have hp := h.p_lt
  have hby := h.byt.tl
  have h256 := h.byt.hd
  have H0 := Lib.hid h
  have C := Lib.hid (byteM (h.al sZ))
  have hwl : IntKind.i64.wrap (lf : Int) = (lf : Int) := IntWalk.i64_in _ (by omega)
  have qk : (hdB cs : Int) % 10 = 1 := by omega
  clear h
  generalize hb : hdB cs = b at *
  generalize hr : tlB cs = r at *
  go_enter Tryz.func12, Tryz.ntmps12
  try simp only [List.append_eq, List.cons_append, List.nil_append]
  go_wp2_with fail
  refine C.out.mono ?_
  rintro E w1 ⟨rfl, hI, hF⟩
  have HM2 := Lib.hid (MidS.start (lf := (lf : Int)) H0.out hI hF 2)
  have hz2 : ((w1.setCell ⟨p, 2, none⟩ (.int .i64 (lf : Int))).alloc (sK 2)).heap.size = w1.heap.size + 1 := by rw [S3.sz1]; simp [World.setCell]
  have hp1 := hI.p_lt
  have hq2 : w1.heap.size < ((w1.setCell ⟨p, 2, none⟩ (.int .i64 (lf : Int))).alloc (sK 2)).heap.size := by rw [hz2]; omega
  obtain ⟨j0, j1, j2, j3⟩ : w1.cell? ⟨p, 0, none⟩ = w1.cell? ⟨p, 0, none⟩ ∧ True ∧ w1.cell? ⟨p, 2, none⟩ = some (.int .i64 ((lf : Int) + 1)) ∧ w1.frozen? ⟨p, 2, none⟩ = false := by
    obtain ⟨⟨_, _, _, _, _, _, h4, _⟩, _⟩ := hI
    exact ⟨rfl, trivial, (mk_row h4).2.2.1, mk_froz h4⟩
  clear j0 j1 hI hF C H0
  obtain ⟨g0, g1, g2, g3, g4, g5, g6, g7⟩ := HM2.out.facts
  go_wp2_with fail
  generalize w1.heap.size = q at *
  generalize (w1.setCell ⟨p, 2, none⟩ (.int .i64 (lf : Int))).alloc (sK 2) = w2 at *
  have hqq := HM2.out.pt.2.1
  have N := Lib.hid (nameM HM2.out.mki (by first | omega | (simp; omega) | (simp at hlen ⊢; omega)))
  refine N.out.mono ?_
  rintro E w3 ⟨rfl, hI, hF⟩
  have hM3 := HM2.out.step hI hF
  have z2 := hM3.froz (i := 2)
  obtain ⟨g0, g1, g2, g3, g4, g5, g6, g7⟩ := hM3.facts
  have hqm := hM3.pt.2.1
  have HM4 := Lib.hid (hM3.set2 (.string (B (nmW (hdB r)))))
  have hz4 : (w3.setCell ⟨q, 2, none⟩ (.string (B (nmW (hdB r))))).heap.size = w3.heap.size := by simp [World.setCell]
  clear N hI hF HM2 hM3
  go_wp2_with fail
  generalize w3.setCell ⟨q, 2, none⟩ (.string (B (nmW (hdB r)))) = w4 at *
  have hS : StrL (w4.alloc (.cells #[.string ⟨#[61]⟩] 9)) (w4.alloc (.cells #[.string ⟨#[61]⟩] 9)).heap.size (.slice (some ⟨w4.heap.size, 0, none⟩) 1 1) [[61]] := strL_new w4 [[61]] 9 rfl
  have D := addM (HM4.out.mki.al (.cells #[.string ⟨#[61]⟩] 9)) hS (by simp) (by first | omega | (simp; omega) | (simp at hlen ⊢; omega))
  rw [show List.map wtk [[61]] = [tEq] by decide +kernel] at D
  rw [hz4] at D
  have D := Lib.hid D
  have HX := Lib.hid (HM4.out.al (.cells #[.string ⟨#[61]⟩] 9))
  have hpx := HM4.out.p_lt
  refine D.out.mono ?_
  rintro E w5 ⟨rfl, hI, hF⟩
  have HM5 := Lib.hid (HX.out.step hI hF)
  clear hS D HX hpx hI hF HM4 hz4
  have X := exprM_all 2 (by omega) false w5 p M all _ _ _ HM5.out.mki (by first | (rw [tokT_false]; simp at hlen ⊢; omega) | (rw [tokT_false]; simp; omega))
  rw [show ((2 : Nat) : Int) + 1 = 3 from rfl, tokT_false] at X
  have hok := tr_okE6 (mkT_ok 2 (tlB r) (by first | exact hby | exact hby.tl | exact hby.tl.tl)).1
  generalize hrr : mkT 2 (tlB r) = rr at *
  have X := Lib.hid X
  have hqx : q < w5.heap.size := HM5.out.pt.2.1
  obtain ⟨g0, g1, g2, g3, g4, g5, g6, g7⟩ := HM5.out.facts
  have hqn := HM5.out.pt.2.1
  go_wp2_with fail
  refine X.out.mono ?_
  rintro E w6 ⟨A, kk, c, rfl, hEr, hI, hF⟩
  have hM6 := HM5.out.step hI hF
  have z5 := hM6.froz (i := 5)
  obtain ⟨g0, g1, g2, g3, g4, g5, g6, g7⟩ := hM6.facts
  have hqm := hM6.pt.2.1
  obtain ⟨i1, i2, hz7⟩ := hM6.one hEr hqx hok
  have HM7 := Lib.hid i1
  have HE := Lib.hid i2
  clear hI hF hEr hok X i1 i2 HM5 hM6
  go_wp2_with fail
  generalize (w6.setCell ⟨q, 5, none⟩ (.slice (some ⟨w6.heap.size, 0, none⟩) 1 1)).alloc (S3.eO rr.1.ex (.slice A kk c)) = w7 at *
  have hS : StrL (w7.alloc (.cells #[.string ⟨#[59]⟩] 9)) (w7.alloc (.cells #[.string ⟨#[59]⟩] 9)).heap.size (.slice (some ⟨w7.heap.size, 0, none⟩) 1 1) [[59]] := strL_new w7 [[59]] 9 rfl
  have D := addM (HM7.out.mki.al (.cells #[.string ⟨#[59]⟩] 9)) hS (by simp) (by first | omega | (simp; omega) | (simp at hlen ⊢; omega))
  rw [show List.map wtk [[59]] = [tSemi] by decide +kernel] at D
  rw [hz7] at D
  have D := Lib.hid D
  have HX := Lib.hid (HM7.out.al (.cells #[.string ⟨#[59]⟩] 9))
  have hpx := HM7.out.p_lt
  refine D.out.mono ?_
  rintro E w8 ⟨rfl, hI, hF⟩
  have HM8 := Lib.hid (HX.out.step hI hF)
  have HE := Lib.hid (er_frm' HE.out ((FrM.al _ _ hpx).trans hF))
  clear hS D HX hpx hI hF HM7 hz7
  obtain ⟨g0, g1, g2, g3, g4, g5, g6, g7⟩ := HM8.out.facts
  have hqm := HM8.out.pt.2.1
  obtain ⟨z0, z1, z2, z3, z4, z5, z6, z7, r0, r1, r2, r3, r4, r5, r6, r7, y0, y1, y2, y3, y4, y5, y6, y7⟩ := HM8.out.r8.facts
  have hq1 := HM8.out.r8.lt
  have HD := Lib.hid ((HM8.out.cast (out' := out ++ ((1, (nmW (hdB r))) :: tEq :: (rr.1.tk ++ [tSemi]))) (by first | rfl | simp only [List.append_assoc, List.cons_append, List.nil_append])).done (s := sSet (nmW (hdB r)) rr.1.ex) ⟨⟨okI_n (k := 2) ⟨by decide, by decide⟩, okI_n (k := 0) ⟨by decide, by decide⟩, okI_n (k := 0) ⟨by decide, by decide⟩, nmW_le _, by simp⟩, HE.out, S3.SR.nil none 0, S3.SR.nil none 0⟩ (.int .i64 2) (.int .i64 0) (.string (B (nmW (hdB r)))) (.int .i64 0) (.string ⟨#[]⟩) (.slice (some ⟨w6.heap.size, 0, none⟩) 1 1) (.slice none 0 0) (.slice none 0 0))
  clear HM8
  go_wp2_with fail
  exact bodyPost_ret (v := S3.sV (sSet (nmW (hdB r)) rr.1.ex) (.slice (some ⟨w6.heap.size, 0, none⟩) 1 1) (.slice none 0 0) (.slice none 0 0)) (by simp [results, Tryz.results12, go_sem, r0, r1, r2, r3, r4, r5, r6, r7]) rfl HD.out
set_option maxRecDepth 100000 in
set_option maxHeartbeats 8000000 in
theorem stM_new1 {W : World} {p M lf : Nat} {all cs : List Nat} {out : TL} (h : MkI W p M all cs ((lf : Int) + 1) out) (hlf : lf ≤ 1000) (deep : Int) (hdz : deep ≤ 0) (hk : hdB cs % 10 = 3) (hlen : out.length + ((1, nmW (hdB (tlB cs))) :: tEq :: (3, wNew) :: ((mkT 2 (tlB (tlB cs))).1.tk ++ [tSemi])).length ≤ 1000000) :
    Calls Tryz.prog 12 #[mpt p, .int .i64 deep] W (StP W p M all out ⟨sNew (nmW (hdB (tlB cs))) (mkT 2 (tlB (tlB cs))).1.ex, (1, nmW (hdB (tlB cs))) :: tEq :: (3, wNew) :: ((mkT 2 (tlB (tlB cs))).1.tk ++ [tSemi]), lf, (mkT 2 (tlB (tlB cs))).2⟩) := by
  have hp := h.p_lt
  have hby := h.byt.tl
  have h256 := h.byt.hd
  have H0 := Lib.hid h
  have C := Lib.hid (byteM (h.al sZ))
  have hwl : IntKind.i64.wrap (lf : Int) = (lf : Int) := IntWalk.i64_in _ (by omega)
  have qk : (hdB cs : Int) % 10 = 3 := by omega
  clear h
  generalize hb : hdB cs = b at *
  generalize hr : tlB cs = r at *
  go_enter Tryz.func12, Tryz.ntmps12
  try simp only [List.append_eq, List.cons_append, List.nil_append]
  go_wp2_with fail
  refine C.out.mono ?_
  rintro E w1 ⟨rfl, hI, hF⟩
  have HM2 := Lib.hid (MidS.start (lf := (lf : Int)) H0.out hI hF 4)
  have hz2 : ((w1.setCell ⟨p, 2, none⟩ (.int .i64 (lf : Int))).alloc (sK 4)).heap.size = w1.heap.size + 1 := by rw [S3.sz1]; simp [World.setCell]
  have hp1 := hI.p_lt
  have hq2 : w1.heap.size < ((w1.setCell ⟨p, 2, none⟩ (.int .i64 (lf : Int))).alloc (sK 4)).heap.size := by rw [hz2]; omega
  obtain ⟨j0, j1, j2, j3⟩ : w1.cell? ⟨p, 0, none⟩ = w1.cell? ⟨p, 0, none⟩ ∧ True ∧ w1.cell? ⟨p, 2, none⟩ = some (.int .i64 ((lf : Int) + 1)) ∧ w1.frozen? ⟨p, 2, none⟩ = false := by
    obtain ⟨⟨_, _, _, _, _, _, h4, _⟩, _⟩ := hI
    exact ⟨rfl, trivial, (mk_row h4).2.2.1, mk_froz h4⟩
  clear j0 j1 hI hF C H0
  obtain ⟨g0, g1, g2, g3, g4, g5, g6, g7⟩ := HM2.out.facts
  go_wp2_with fail
  generalize w1.heap.size = q at *
  generalize (w1.setCell ⟨p, 2, none⟩ (.int .i64 (lf : Int))).alloc (sK 4) = w2 at *
  have hqq := HM2.out.pt.2.1
  have N := Lib.hid (nameM HM2.out.mki (by first | omega | (simp; omega) | (simp at hlen ⊢; omega)))
  refine N.out.mono ?_
  rintro E w3 ⟨rfl, hI, hF⟩
  have hM3 := HM2.out.step hI hF
  have z2 := hM3.froz (i := 2)
  obtain ⟨g0, g1, g2, g3, g4, g5, g6, g7⟩ := hM3.facts
  have hqm := hM3.pt.2.1
  have HM4 := Lib.hid (hM3.set2 (.string (B (nmW (hdB r)))))
  have hz4 : (w3.setCell ⟨q, 2, none⟩ (.string (B (nmW (hdB r))))).heap.size = w3.heap.size := by simp [World.setCell]
  clear N hI hF HM2 hM3
  go_wp2_with fail
  generalize w3.setCell ⟨q, 2, none⟩ (.string (B (nmW (hdB r)))) = w4 at *
  have hS : StrL (w4.alloc (.cells #[.string ⟨#[61]⟩] 9)) (w4.alloc (.cells #[.string ⟨#[61]⟩] 9)).heap.size (.slice (some ⟨w4.heap.size, 0, none⟩) 1 1) [[61]] := strL_new w4 [[61]] 9 rfl
  have D := addM (HM4.out.mki.al (.cells #[.string ⟨#[61]⟩] 9)) hS (by simp) (by first | omega | (simp; omega) | (simp at hlen ⊢; omega))
  rw [show List.map wtk [[61]] = [tEq] by decide +kernel] at D
  rw [hz4] at D
  have D := Lib.hid D
  have HX := Lib.hid (HM4.out.al (.cells #[.string ⟨#[61]⟩] 9))
  have hpx := HM4.out.p_lt
  refine D.out.mono ?_
  rintro E w5 ⟨rfl, hI, hF⟩
  have HM5 := Lib.hid (HX.out.step hI hF)
  clear hS D HX hpx hI hF HM4 hz4
  obtain ⟨g0, g1, g2, g3, g4, g5, g6, g7⟩ := HM5.out.facts
  have hqn := HM5.out.pt.2.1
  go_wp2_with fail
  have hS : StrL (w5.alloc (.cells #[.string ⟨#[110, 101, 119]⟩] 9)) (w5.alloc (.cells #[.string ⟨#[110, 101, 119]⟩] 9)).heap.size (.slice (some ⟨w5.heap.size, 0, none⟩) 1 1) [[110, 101, 119]] := strL_new w5 [[110, 101, 119]] 9 rfl
  have D := addM (HM5.out.mki.al (.cells #[.string ⟨#[110, 101, 119]⟩] 9)) hS (by simp) (by first | omega | (simp; omega) | (simp at hlen ⊢; omega))
  rw [show List.map wtk [[110, 101, 119]] = [(3, wNew)] by decide +kernel] at D
  have D := Lib.hid D
  have HX := Lib.hid (HM5.out.al (.cells #[.string ⟨#[110, 101, 119]⟩] 9))
  have hpx := HM5.out.p_lt
  refine D.out.mono ?_
  rintro E w6 ⟨rfl, hI, hF⟩
  have HM6 := Lib.hid (HX.out.step hI hF)
  clear hS D HX hpx hI hF HM5
  have X := exprM_all 2 (by omega) false w6 p M all _ _ _ HM6.out.mki (by first | (rw [tokT_false]; simp at hlen ⊢; omega) | (rw [tokT_false]; simp; omega))
  rw [show ((2 : Nat) : Int) + 1 = 3 from rfl, tokT_false] at X
  have hok := tr_okE6 (mkT_ok 2 (tlB r) (by first | exact hby | exact hby.tl | exact hby.tl.tl)).1
  generalize hrr : mkT 2 (tlB r) = rr at *
  have X := Lib.hid X
  have hqx : q < w6.heap.size := HM6.out.pt.2.1
  obtain ⟨g0, g1, g2, g3, g4, g5, g6, g7⟩ := HM6.out.facts
  have hqn := HM6.out.pt.2.1
  go_wp2_with fail
  refine X.out.mono ?_
  rintro E w7 ⟨A, kk, c, rfl, hEr, hI, hF⟩
  have hM7 := HM6.out.step hI hF
  have z5 := hM7.froz (i := 5)
  obtain ⟨g0, g1, g2, g3, g4, g5, g6, g7⟩ := hM7.facts
  have hqm := hM7.pt.2.1
  obtain ⟨i1, i2, hz8⟩ := hM7.one hEr hqx hok
  have HM8 := Lib.hid i1
  have HE := Lib.hid i2
  clear hI hF hEr hok X i1 i2 HM6 hM7
  go_wp2_with fail
  generalize (w7.setCell ⟨q, 5, none⟩ (.slice (some ⟨w7.heap.size, 0, none⟩) 1 1)).alloc (S3.eO rr.1.ex (.slice A kk c)) = w8 at *
  have hS : StrL (w8.alloc (.cells #[.string ⟨#[59]⟩] 9)) (w8.alloc (.cells #[.string ⟨#[59]⟩] 9)).heap.size (.slice (some ⟨w8.heap.size, 0, none⟩) 1 1) [[59]] := strL_new w8 [[59]] 9 rfl
  have D := addM (HM8.out.mki.al (.cells #[.string ⟨#[59]⟩] 9)) hS (by simp) (by first | omega | (simp; omega) | (simp at hlen ⊢; omega))
  rw [show List.map wtk [[59]] = [tSemi] by decide +kernel] at D
  rw [hz8] at D
  have D := Lib.hid D
  have HX := Lib.hid (HM8.out.al (.cells #[.string ⟨#[59]⟩] 9))
  have hpx := HM8.out.p_lt
  refine D.out.mono ?_
  rintro E w9 ⟨rfl, hI, hF⟩
  have HM9 := Lib.hid (HX.out.step hI hF)
  have HE := Lib.hid (er_frm' HE.out ((FrM.al _ _ hpx).trans hF))
  clear hS D HX hpx hI hF HM8 hz8
  obtain ⟨g0, g1, g2, g3, g4, g5, g6, g7⟩ := HM9.out.facts
  have hqm := HM9.out.pt.2.1
  obtain ⟨z0, z1, z2, z3, z4, z5, z6, z7, r0, r1, r2, r3, r4, r5, r6, r7, y0, y1, y2, y3, y4, y5, y6, y7⟩ := HM9.out.r8.facts
  have hq1 := HM9.out.r8.lt
  have HD := Lib.hid ((HM9.out.cast (out' := out ++ ((1, (nmW (hdB r))) :: tEq :: (3, wNew) :: (rr.1.tk ++ [tSemi]))) (by first | rfl | simp only [List.append_assoc, List.cons_append, List.nil_append])).done (s := sNew (nmW (hdB r)) rr.1.ex) ⟨⟨okI_n (k := 4) ⟨by decide, by decide⟩, okI_n (k := 0) ⟨by decide, by decide⟩, okI_n (k := 0) ⟨by decide, by decide⟩, nmW_le _, by simp⟩, HE.out, S3.SR.nil none 0, S3.SR.nil none 0⟩ (.int .i64 4) (.int .i64 0) (.string (B (nmW (hdB r)))) (.int .i64 0) (.string ⟨#[]⟩) (.slice (some ⟨w7.heap.size, 0, none⟩) 1 1) (.slice none 0 0) (.slice none 0 0))
  clear HM9
  go_wp2_with fail
  exact bodyPost_ret (v := S3.sV (sNew (nmW (hdB r)) rr.1.ex) (.slice (some ⟨w7.heap.size, 0, none⟩) 1 1) (.slice none 0 0) (.slice none 0 0)) (by simp [results, Tryz.results12, go_sem, r0, r1, r2, r3, r4, r5, r6, r7]) rfl HD.out
set_option maxRecDepth 100000 in
set_option maxHeartbeats 8000000 in
theorem stM_new0 {W : World} {p M lf : Nat} {all cs : List Nat} {out : TL} (h : MkI W p M all cs ((lf : Int) + 1) out) (hlf : lf ≤ 1000) (deep : Int) (hdz : ¬ deep ≤ 0) (hk : hdB cs % 10 = 3) (hlen : out.length + ((1, nmW (hdB (tlB cs))) :: tEq :: (3, wNew) :: ((mkT 2 (tlB (tlB cs))).1.tk ++ [tSemi])).length ≤ 1000000) :
    Calls Tryz.prog 12 #[mpt p, .int .i64 deep] W (StP W p M all out ⟨sNew (nmW (hdB (tlB cs))) (mkT 2 (tlB (tlB cs))).1.ex, (1, nmW (hdB (tlB cs))) :: tEq :: (3, wNew) :: ((mkT 2 (tlB (tlB cs))).1.tk ++ [tSemi]), lf, (mkT 2 (tlB (tlB cs))).2⟩) := by
  have hp := h.p_lt
  have hby := h.byt.tl
  have h256 := h.byt.hd
  have H0 := Lib.hid h
  have C := Lib.hid (byteM (h.al sZ))
  have hwl : IntKind.i64.wrap (lf : Int) = (lf : Int) := IntWalk.i64_in _ (by omega)
  have qk : (hdB cs : Int) % 10 = 3 := by omega
  clear h
  generalize hb : hdB cs = b at *
  generalize hr : tlB cs = r at *
  go_enter Tryz.func12, Tryz.ntmps12
  try simp only [List.append_eq, List.cons_append, List.nil_append]
  go_wp2_with fail
  refine C.out.mono ?_
  rintro E w1 ⟨rfl, hI, hF⟩
  have HM2 := Lib.hid (MidS.start (lf := (lf : Int)) H0.out hI hF 4)
  have hz2 : ((w1.setCell ⟨p, 2, none⟩ (.int .i64 (lf : Int))).alloc (sK 4)).heap.size = w1.heap.size + 1 := by rw [S3.sz1]; simp [World.setCell]
  have hp1 := hI.p_lt
  have hq2 : w1.heap.size < ((w1.setCell ⟨p, 2, none⟩ (.int .i64 (lf : Int))).alloc (sK 4)).heap.size := by rw [hz2]; omega
  obtain ⟨j0, j1, j2, j3⟩ : w1.cell? ⟨p, 0, none⟩ = w1.cell? ⟨p, 0, none⟩ ∧ True ∧ w1.cell? ⟨p, 2, none⟩ = some (.int .i64 ((lf : Int) + 1)) ∧ w1.frozen? ⟨p, 2, none⟩ = false := by
    obtain ⟨⟨_, _, _, _, _, _, h4, _⟩, _⟩ := hI
    exact ⟨rfl, trivial, (mk_row h4).2.2.1, mk_froz h4⟩
  clear j0 j1 hI hF C H0
  obtain ⟨g0, g1, g2, g3, g4, g5, g6, g7⟩ := HM2.out.facts
  go_wp2_with fail
  generalize w1.heap.size = q at *
  generalize (w1.setCell ⟨p, 2, none⟩ (.int .i64 (lf : Int))).alloc (sK 4) = w2 at *
  have hqq := HM2.out.pt.2.1
  have N := Lib.hid (nameM HM2.out.mki (by first | omega | (simp; omega) | (simp at hlen ⊢; omega)))
  refine N.out.mono ?_
  rintro E w3 ⟨rfl, hI, hF⟩
  have hM3 := HM2.out.step hI hF
  have z2 := hM3.froz (i := 2)
  obtain ⟨g0, g1, g2, g3, g4, g5, g6, g7⟩ := hM3.facts
  have hqm := hM3.pt.2.1
  have HM4 := Lib.hid (hM3.set2 (.string (B (nmW (hdB r)))))
  have hz4 : (w3.setCell ⟨q, 2, none⟩ (.string (B (nmW (hdB r))))).heap.size = w3.heap.size := by simp [World.setCell]
  clear N hI hF HM2 hM3
  go_wp2_with fail
  generalize w3.setCell ⟨q, 2, none⟩ (.string (B (nmW (hdB r)))) = w4 at *
  have hS : StrL (w4.alloc (.cells #[.string ⟨#[61]⟩] 9)) (w4.alloc (.cells #[.string ⟨#[61]⟩] 9)).heap.size (.slice (some ⟨w4.heap.size, 0, none⟩) 1 1) [[61]] := strL_new w4 [[61]] 9 rfl
  have D := addM (HM4.out.mki.al (.cells #[.string ⟨#[61]⟩] 9)) hS (by simp) (by first | omega | (simp; omega) | (simp at hlen ⊢; omega))
  rw [show List.map wtk [[61]] = [tEq] by decide +kernel] at D
  rw [hz4] at D
  have D := Lib.hid D
  have HX := Lib.hid (HM4.out.al (.cells #[.string ⟨#[61]⟩] 9))
  have hpx := HM4.out.p_lt
  refine D.out.mono ?_
  rintro E w5 ⟨rfl, hI, hF⟩
  have HM5 := Lib.hid (HX.out.step hI hF)
  clear hS D HX hpx hI hF HM4 hz4
  obtain ⟨g0, g1, g2, g3, g4, g5, g6, g7⟩ := HM5.out.facts
  have hqn := HM5.out.pt.2.1
  go_wp2_with fail
  have hS : StrL (w5.alloc (.cells #[.string ⟨#[110, 101, 119]⟩] 9)) (w5.alloc (.cells #[.string ⟨#[110, 101, 119]⟩] 9)).heap.size (.slice (some ⟨w5.heap.size, 0, none⟩) 1 1) [[110, 101, 119]] := strL_new w5 [[110, 101, 119]] 9 rfl
  have D := addM (HM5.out.mki.al (.cells #[.string ⟨#[110, 101, 119]⟩] 9)) hS (by simp) (by first | omega | (simp; omega) | (simp at hlen ⊢; omega))
  rw [show List.map wtk [[110, 101, 119]] = [(3, wNew)] by decide +kernel] at D
  have D := Lib.hid D
  have HX := Lib.hid (HM5.out.al (.cells #[.string ⟨#[110, 101, 119]⟩] 9))
  have hpx := HM5.out.p_lt
  refine D.out.mono ?_
  rintro E w6 ⟨rfl, hI, hF⟩
  have HM6 := Lib.hid (HX.out.step hI hF)
  clear hS D HX hpx hI hF HM5
  have X := exprM_all 2 (by omega) false w6 p M all _ _ _ HM6.out.mki (by first | (rw [tokT_false]; simp at hlen ⊢; omega) | (rw [tokT_false]; simp; omega))
  rw [show ((2 : Nat) : Int) + 1 = 3 from rfl, tokT_false] at X
  have hok := tr_okE6 (mkT_ok 2 (tlB r) (by first | exact hby | exact hby.tl | exact hby.tl.tl)).1
  generalize hrr : mkT 2 (tlB r) = rr at *
  have X := Lib.hid X
  have hqx : q < w6.heap.size := HM6.out.pt.2.1
  obtain ⟨g0, g1, g2, g3, g4, g5, g6, g7⟩ := HM6.out.facts
  have hqn := HM6.out.pt.2.1
  go_wp2_with fail
  refine X.out.mono ?_
  rintro E w7 ⟨A, kk, c, rfl, hEr, hI, hF⟩
  have hM7 := HM6.out.step hI hF
  have z5 := hM7.froz (i := 5)
  obtain ⟨g0, g1, g2, g3, g4, g5, g6, g7⟩ := hM7.facts
  have hqm := hM7.pt.2.1
  obtain ⟨i1, i2, hz8⟩ := hM7.one hEr hqx hok
  have HM8 := Lib.hid i1
  have HE := Lib.hid i2
  clear hI hF hEr hok X i1 i2 HM6 hM7
  go_wp2_with fail
  generalize (w7.setCell ⟨q, 5, none⟩ (.slice (some ⟨w7.heap.size, 0, none⟩) 1 1)).alloc (S3.eO rr.1.ex (.slice A kk c)) = w8 at *
  have hS : StrL (w8.alloc (.cells #[.string ⟨#[59]⟩] 9)) (w8.alloc (.cells #[.string ⟨#[59]⟩] 9)).heap.size (.slice (some ⟨w8.heap.size, 0, none⟩) 1 1) [[59]] := strL_new w8 [[59]] 9 rfl
  have D := addM (HM8.out.mki.al (.cells #[.string ⟨#[59]⟩] 9)) hS (by simp) (by first | omega | (simp; omega) | (simp at hlen ⊢; omega))
  rw [show List.map wtk [[59]] = [tSemi] by decide +kernel] at D
  rw [hz8] at D
  have D := Lib.hid D
  have HX := Lib.hid (HM8.out.al (.cells #[.string ⟨#[59]⟩] 9))
  have hpx := HM8.out.p_lt
  refine D.out.mono ?_
  rintro E w9 ⟨rfl, hI, hF⟩
  have HM9 := Lib.hid (HX.out.step hI hF)
  have HE := Lib.hid (er_frm' HE.out ((FrM.al _ _ hpx).trans hF))
  clear hS D HX hpx hI hF HM8 hz8
  obtain ⟨g0, g1, g2, g3, g4, g5, g6, g7⟩ := HM9.out.facts
  have hqm := HM9.out.pt.2.1
  obtain ⟨z0, z1, z2, z3, z4, z5, z6, z7, r0, r1, r2, r3, r4, r5, r6, r7, y0, y1, y2, y3, y4, y5, y6, y7⟩ := HM9.out.r8.facts
  have hq1 := HM9.out.r8.lt
  have HD := Lib.hid ((HM9.out.cast (out' := out ++ ((1, (nmW (hdB r))) :: tEq :: (3, wNew) :: (rr.1.tk ++ [tSemi]))) (by first | rfl | simp only [List.append_assoc, List.cons_append, List.nil_append])).done (s := sNew (nmW (hdB r)) rr.1.ex) ⟨⟨okI_n (k := 4) ⟨by decide, by decide⟩, okI_n (k := 0) ⟨by decide, by decide⟩, okI_n (k := 0) ⟨by decide, by decide⟩, nmW_le _, by simp⟩, HE.out, S3.SR.nil none 0, S3.SR.nil none 0⟩ (.int .i64 4) (.int .i64 0) (.string (B (nmW (hdB r)))) (.int .i64 0) (.string ⟨#[]⟩) (.slice (some ⟨w7.heap.size, 0, none⟩) 1 1) (.slice none 0 0) (.slice none 0 0))
  clear HM9
  go_wp2_with fail
  exact bodyPost_ret (v := S3.sV (sNew (nmW (hdB r)) rr.1.ex) (.slice (some ⟨w7.heap.size, 0, none⟩) 1 1) (.slice none 0 0) (.slice none 0 0)) (by simp [results, Tryz.results12, go_sem, r0, r1, r2, r3, r4, r5, r6, r7]) rfl HD.out
end Go.Proofs.YtipepljmfgjbpaaGreatDoor.E6

namespace Go.Proofs.YtipepljmfgjbpaaGreatDoor.E6
open Go Go.RowKit Go.Proofs.YtipepljmfgjbpaaGreatDoor Go.Proofs.YtipepljmfgjbpaaGreatDoor.E5

set_option maxRecDepth 100000 in
set_option maxHeartbeats 8000000 in
theorem stM_call10 {W : World} {p M lf : Nat} {all cs : List Nat} {out : TL} (h : MkI W p M all cs ((lf : Int) + 1) out) (hlf : lf ≤ 1000) (deep : Int) (hdz : deep ≤ 0) (hk : hdB cs % 10 = 6) (hm : ¬ 128 ≤ hdB cs) (hlen : out.length + ((1, nmW (hdB (tlB cs))) :: (argsT (mkAs (hdB (tlB (tlB cs)) % 4) (tlB (tlB (tlB cs)))).1 ++ [tSemi])).length ≤ 1000000) :
    Calls Tryz.prog 12 #[mpt p, .int .i64 deep] W (StP W p M all out ⟨sCall [] (nmW (hdB (tlB cs))) ((mkAs (hdB (tlB (tlB cs)) % 4) (tlB (tlB (tlB cs)))).1.map Tr.ex), (1, nmW (hdB (tlB cs))) :: (argsT (mkAs (hdB (tlB (tlB cs)) % 4) (tlB (tlB (tlB cs)))).1 ++ [tSemi]), lf, (mkAs (hdB (tlB (tlB cs)) % 4) (tlB (tlB (tlB cs)))).2⟩) := by
  have hp := h.p_lt
  have hby := h.byt.tl
  have h256 := h.byt.hd
  have H0 := Lib.hid h
  have C := Lib.hid (byteM (h.al sZ))
  have hwl : IntKind.i64.wrap (lf : Int) = (lf : Int) := IntWalk.i64_in _ (by omega)
  have qk : (hdB cs : Int) % 10 = 6 := by omega
  have qm : ¬ (128 : Int) ≤ (hdB cs : Int) := by omega
  clear h
  generalize hb : hdB cs = b at *
  generalize hr : tlB cs = r at *
  go_enter Tryz.func12, Tryz.ntmps12
  try simp only [List.append_eq, List.cons_append, List.nil_append]
  go_wp2_with fail
  refine C.out.mono ?_
  rintro E w1 ⟨rfl, hI, hF⟩
  have HM2 := Lib.hid (MidS.start (lf := (lf : Int)) H0.out hI hF 7)
  have hz2 : ((w1.setCell ⟨p, 2, none⟩ (.int .i64 (lf : Int))).alloc (sK 7)).heap.size = w1.heap.size + 1 := by rw [S3.sz1]; simp [World.setCell]
  have hp1 := hI.p_lt
  have hq2 : w1.heap.size < ((w1.setCell ⟨p, 2, none⟩ (.int .i64 (lf : Int))).alloc (sK 7)).heap.size := by rw [hz2]; omega
  obtain ⟨j0, j1, j2, j3⟩ : w1.cell? ⟨p, 0, none⟩ = w1.cell? ⟨p, 0, none⟩ ∧ True ∧ w1.cell? ⟨p, 2, none⟩ = some (.int .i64 ((lf : Int) + 1)) ∧ w1.frozen? ⟨p, 2, none⟩ = false := by
    obtain ⟨⟨_, _, _, _, _, _, h4, _⟩, _⟩ := hI
    exact ⟨rfl, trivial, (mk_row h4).2.2.1, mk_froz h4⟩
  clear j0 j1 hI hF C H0
  obtain ⟨g0, g1, g2, g3, g4, g5, g6, g7⟩ := HM2.out.facts
  go_wp2_with fail
  generalize w1.heap.size = q at *
  generalize (w1.setCell ⟨p, 2, none⟩ (.int .i64 (lf : Int))).alloc (sK 7) = w2 at *
  have hqq := HM2.out.pt.2.1
  have N := Lib.hid (nameM HM2.out.mki (by first | omega | (simp; omega) | (simp at hlen ⊢; omega)))
  refine N.out.mono ?_
  rintro E w3 ⟨rfl, hI, hF⟩
  have hM3 := HM2.out.step hI hF
  have z4 := hM3.froz (i := 4)
  obtain ⟨g0, g1, g2, g3, g4, g5, g6, g7⟩ := hM3.facts
  have hqm := hM3.pt.2.1
  have HM4 := Lib.hid (hM3.set4 (.string (B (nmW (hdB r)))))
  have hz4 : (w3.setCell ⟨q, 4, none⟩ (.string (B (nmW (hdB r))))).heap.size = w3.heap.size := by simp [World.setCell]
  clear N hI hF HM2 hM3
  go_wp2_with fail
  generalize w3.setCell ⟨q, 4, none⟩ (.string (B (nmW (hdB r)))) = w4 at *
  have X := argsM HM4.out.mki (by first | omega | (simp; omega) | (simp at hlen ⊢; omega))
  have hal := (mkAs_ok (hdB (tlB r) % 4) (tlB (tlB r)) (by first | exact hby.tl | exact hby.tl.tl | exact hby.tl.tl.tl)).2.1
  have hm3 : hdB (tlB r) % 4 ≤ 3 := by omega
  generalize hrr : mkAs (hdB (tlB r) % 4) (tlB (tlB r)) = aa at *
  have X := Lib.hid X
  have hqx : q < w4.heap.size := HM4.out.pt.2.1
  refine X.out.mono ?_
  rintro E w5 ⟨A, c, rfl, hEr, hI, hF⟩
  have hM5 := HM4.out.step hI hF
  have z5 := hM5.froz (i := 5)
  obtain ⟨g0, g1, g2, g3, g4, g5, g6, g7⟩ := hM5.facts
  have hqm := hM5.pt.2.1
  have HM6 := Lib.hid (hM5.set5 (.slice A aa.1.length c))
  have HE := Lib.hid (hM5.er (i := 5) (u := .slice A aa.1.length c) (hEr.keep (R' := PtM p (q + 1) w5) (fun _ h => h.mono (by omega)) fun _ _ _ => rfl))
  have hz6 : (w5.setCell ⟨q, 5, none⟩ (.slice A aa.1.length c)).heap.size = w5.heap.size := by simp [World.setCell]
  clear hI hF hEr X hal HM4 hM5
  go_wp2_with fail
  generalize w5.setCell ⟨q, 5, none⟩ (.slice A aa.1.length c) = w6 at *
  have hS : StrL (w6.alloc (.cells #[.string ⟨#[59]⟩] 9)) (w6.alloc (.cells #[.string ⟨#[59]⟩] 9)).heap.size (.slice (some ⟨w6.heap.size, 0, none⟩) 1 1) [[59]] := strL_new w6 [[59]] 9 rfl
  have D := addM (HM6.out.mki.al (.cells #[.string ⟨#[59]⟩] 9)) hS (by simp) (by first | omega | (simp; omega) | (simp at hlen ⊢; omega))
  rw [show List.map wtk [[59]] = [tSemi] by decide +kernel] at D
  rw [hz6] at D
  have D := Lib.hid D
  have HX := Lib.hid (HM6.out.al (.cells #[.string ⟨#[59]⟩] 9))
  have hpx := HM6.out.p_lt
  refine D.out.mono ?_
  rintro E w7 ⟨rfl, hI, hF⟩
  have HM7 := Lib.hid (HX.out.step hI hF)
  have HE := Lib.hid (er_frm' HE.out ((FrM.al _ _ hpx).trans hF))
  clear hS D HX hpx hI hF HM6 hz6
  obtain ⟨g0, g1, g2, g3, g4, g5, g6, g7⟩ := HM7.out.facts
  have hqm := HM7.out.pt.2.1
  obtain ⟨z0, z1, z2, z3, z4, z5, z6, z7, r0, r1, r2, r3, r4, r5, r6, r7, y0, y1, y2, y3, y4, y5, y6, y7⟩ := HM7.out.r8.facts
  have hq1 := HM7.out.r8.lt
  have HD := Lib.hid ((HM7.out.cast (out' := out ++ ((1, (nmW (hdB r))) :: (argsT aa.1 ++ [tSemi]))) (by first | rfl | simp only [List.append_assoc, List.cons_append, List.nil_append])).done (s := sCall [] (nmW (hdB r)) (aa.1.map Tr.ex)) ⟨⟨okI_n (k := 7) ⟨by decide, by decide⟩, okI_n (k := 0) ⟨by decide, by decide⟩, okI_n (k := 0) ⟨by decide, by decide⟩, by simp, nmW_le _⟩, HE.out, S3.SR.nil none 0, S3.SR.nil none 0⟩ (.int .i64 7) (.int .i64 0) (.string ⟨#[]⟩) (.int .i64 0) (.string (B (nmW (hdB r)))) (.slice A aa.1.length c) (.slice none 0 0) (.slice none 0 0))
  clear HM7
  go_wp2_with fail
  exact bodyPost_ret (v := S3.sV (sCall [] (nmW (hdB r)) (aa.1.map Tr.ex)) (.slice A aa.1.length c) (.slice none 0 0) (.slice none 0 0)) (by simp [results, Tryz.results12, go_sem, r0, r1, r2, r3, r4, r5, r6, r7]) rfl HD.out
set_option maxRecDepth 100000 in
set_option maxHeartbeats 8000000 in
theorem stM_call11 {W : World} {p M lf : Nat} {all cs : List Nat} {out : TL} (h : MkI W p M all cs ((lf : Int) + 1) out) (hlf : lf ≤ 1000) (deep : Int) (hdz : deep ≤ 0) (hk : hdB cs % 10 = 6) (hm : 128 ≤ hdB cs) (hlen : out.length + ((1, nmW (hdB (tlB cs))) :: tEq :: (1, nmW (hdB (tlB (tlB cs)))) :: (argsT (mkAs (hdB (tlB (tlB (tlB cs))) % 4) (tlB (tlB (tlB (tlB cs))))).1 ++ [tSemi])).length ≤ 1000000) :
    Calls Tryz.prog 12 #[mpt p, .int .i64 deep] W (StP W p M all out ⟨sCall (nmW (hdB (tlB cs))) (nmW (hdB (tlB (tlB cs)))) ((mkAs (hdB (tlB (tlB (tlB cs))) % 4) (tlB (tlB (tlB (tlB cs))))).1.map Tr.ex), (1, nmW (hdB (tlB cs))) :: tEq :: (1, nmW (hdB (tlB (tlB cs)))) :: (argsT (mkAs (hdB (tlB (tlB (tlB cs))) % 4) (tlB (tlB (tlB (tlB cs))))).1 ++ [tSemi]), lf, (mkAs (hdB (tlB (tlB (tlB cs))) % 4) (tlB (tlB (tlB (tlB cs))))).2⟩) := by
  have hp := h.p_lt
  have hby := h.byt.tl
  have h256 := h.byt.hd
  have H0 := Lib.hid h
  have C := Lib.hid (byteM (h.al sZ))
  have hwl : IntKind.i64.wrap (lf : Int) = (lf : Int) := IntWalk.i64_in _ (by omega)
  have qk : (hdB cs : Int) % 10 = 6 := by omega
  have qm : (128 : Int) ≤ (hdB cs : Int) := by omega
  clear h
  generalize hb : hdB cs = b at *
  generalize hr : tlB cs = r at *
  go_enter Tryz.func12, Tryz.ntmps12
  try simp only [List.append_eq, List.cons_append, List.nil_append]
  go_wp2_with fail
  refine C.out.mono ?_
  rintro E w1 ⟨rfl, hI, hF⟩
  have HM2 := Lib.hid (MidS.start (lf := (lf : Int)) H0.out hI hF 7)
  have hz2 : ((w1.setCell ⟨p, 2, none⟩ (.int .i64 (lf : Int))).alloc (sK 7)).heap.size = w1.heap.size + 1 := by rw [S3.sz1]; simp [World.setCell]
  have hp1 := hI.p_lt
  have hq2 : w1.heap.size < ((w1.setCell ⟨p, 2, none⟩ (.int .i64 (lf : Int))).alloc (sK 7)).heap.size := by rw [hz2]; omega
  obtain ⟨j0, j1, j2, j3⟩ : w1.cell? ⟨p, 0, none⟩ = w1.cell? ⟨p, 0, none⟩ ∧ True ∧ w1.cell? ⟨p, 2, none⟩ = some (.int .i64 ((lf : Int) + 1)) ∧ w1.frozen? ⟨p, 2, none⟩ = false := by
    obtain ⟨⟨_, _, _, _, _, _, h4, _⟩, _⟩ := hI
    exact ⟨rfl, trivial, (mk_row h4).2.2.1, mk_froz h4⟩
  clear j0 j1 hI hF C H0
  obtain ⟨g0, g1, g2, g3, g4, g5, g6, g7⟩ := HM2.out.facts
  go_wp2_with fail
  generalize w1.heap.size = q at *
  generalize (w1.setCell ⟨p, 2, none⟩ (.int .i64 (lf : Int))).alloc (sK 7) = w2 at *
  have hqq := HM2.out.pt.2.1
  have N := Lib.hid (nameM HM2.out.mki (by first | omega | (simp; omega) | (simp at hlen ⊢; omega)))
  refine N.out.mono ?_
  rintro E w3 ⟨rfl, hI, hF⟩
  have hM3 := HM2.out.step hI hF
  have z2 := hM3.froz (i := 2)
  obtain ⟨g0, g1, g2, g3, g4, g5, g6, g7⟩ := hM3.facts
  have hqm := hM3.pt.2.1
  have HM4 := Lib.hid (hM3.set2 (.string (B (nmW (hdB r)))))
  have hz4 : (w3.setCell ⟨q, 2, none⟩ (.string (B (nmW (hdB r))))).heap.size = w3.heap.size := by simp [World.setCell]
  clear N hI hF HM2 hM3
  go_wp2_with fail
  generalize w3.setCell ⟨q, 2, none⟩ (.string (B (nmW (hdB r)))) = w4 at *
  have hS : StrL (w4.alloc (.cells #[.string ⟨#[61]⟩] 9)) (w4.alloc (.cells #[.string ⟨#[61]⟩] 9)).heap.size (.slice (some ⟨w4.heap.size, 0, none⟩) 1 1) [[61]] := strL_new w4 [[61]] 9 rfl
  have D := addM (HM4.out.mki.al (.cells #[.string ⟨#[61]⟩] 9)) hS (by simp) (by first | omega | (simp; omega) | (simp at hlen ⊢; omega))
  rw [show List.map wtk [[61]] = [tEq] by decide +kernel] at D
  rw [hz4] at D
  have D := Lib.hid D
  have HX := Lib.hid (HM4.out.al (.cells #[.string ⟨#[61]⟩] 9))
  have hpx := HM4.out.p_lt
  refine D.out.mono ?_
  rintro E w5 ⟨rfl, hI, hF⟩
  have HM5 := Lib.hid (HX.out.step hI hF)
  clear hS D HX hpx hI hF HM4 hz4
  obtain ⟨g0, g1, g2, g3, g4, g5, g6, g7⟩ := HM5.out.facts
  have hqn := HM5.out.pt.2.1
  go_wp2_with fail
  have N := Lib.hid (nameM HM5.out.mki (by first | omega | (simp; omega) | (simp at hlen ⊢; omega)))
  refine N.out.mono ?_
  rintro E w6 ⟨rfl, hI, hF⟩
  have hM6 := HM5.out.step hI hF
  have z4 := hM6.froz (i := 4)
  obtain ⟨g0, g1, g2, g3, g4, g5, g6, g7⟩ := hM6.facts
  have hqm := hM6.pt.2.1
  have HM7 := Lib.hid (hM6.set4 (.string (B (nmW (hdB (tlB r))))))
  have hz7 : (w6.setCell ⟨q, 4, none⟩ (.string (B (nmW (hdB (tlB r)))))).heap.size = w6.heap.size := by simp [World.setCell]
  clear N hI hF HM5 hM6
  go_wp2_with fail
  generalize w6.setCell ⟨q, 4, none⟩ (.string (B (nmW (hdB (tlB r))))) = w7 at *
  have X := argsM HM7.out.mki (by first | omega | (simp; omega) | (simp at hlen ⊢; omega))
  have hal := (mkAs_ok (hdB (tlB (tlB r)) % 4) (tlB (tlB (tlB r))) (by first | exact hby.tl | exact hby.tl.tl | exact hby.tl.tl.tl)).2.1
  have hm3 : hdB (tlB (tlB r)) % 4 ≤ 3 := by omega
  generalize hrr : mkAs (hdB (tlB (tlB r)) % 4) (tlB (tlB (tlB r))) = aa at *
  have X := Lib.hid X
  have hqx : q < w7.heap.size := HM7.out.pt.2.1
  refine X.out.mono ?_
  rintro E w8 ⟨A, c, rfl, hEr, hI, hF⟩
  have hM8 := HM7.out.step hI hF
  have z5 := hM8.froz (i := 5)
  obtain ⟨g0, g1, g2, g3, g4, g5, g6, g7⟩ := hM8.facts
  have hqm := hM8.pt.2.1
  have HM9 := Lib.hid (hM8.set5 (.slice A aa.1.length c))
  have HE := Lib.hid (hM8.er (i := 5) (u := .slice A aa.1.length c) (hEr.keep (R' := PtM p (q + 1) w8) (fun _ h => h.mono (by omega)) fun _ _ _ => rfl))
  have hz9 : (w8.setCell ⟨q, 5, none⟩ (.slice A aa.1.length c)).heap.size = w8.heap.size := by simp [World.setCell]
  clear hI hF hEr X hal HM7 hM8
  go_wp2_with fail
  generalize w8.setCell ⟨q, 5, none⟩ (.slice A aa.1.length c) = w9 at *
  have hS : StrL (w9.alloc (.cells #[.string ⟨#[59]⟩] 9)) (w9.alloc (.cells #[.string ⟨#[59]⟩] 9)).heap.size (.slice (some ⟨w9.heap.size, 0, none⟩) 1 1) [[59]] := strL_new w9 [[59]] 9 rfl
  have D := addM (HM9.out.mki.al (.cells #[.string ⟨#[59]⟩] 9)) hS (by simp) (by first | omega | (simp; omega) | (simp at hlen ⊢; omega))
  rw [show List.map wtk [[59]] = [tSemi] by decide +kernel] at D
  rw [hz9] at D
  have D := Lib.hid D
  have HX := Lib.hid (HM9.out.al (.cells #[.string ⟨#[59]⟩] 9))
  have hpx := HM9.out.p_lt
  refine D.out.mono ?_
  rintro E w10 ⟨rfl, hI, hF⟩
  have HM10 := Lib.hid (HX.out.step hI hF)
  have HE := Lib.hid (er_frm' HE.out ((FrM.al _ _ hpx).trans hF))
  clear hS D HX hpx hI hF HM9 hz9
  obtain ⟨g0, g1, g2, g3, g4, g5, g6, g7⟩ := HM10.out.facts
  have hqm := HM10.out.pt.2.1
  obtain ⟨z0, z1, z2, z3, z4, z5, z6, z7, r0, r1, r2, r3, r4, r5, r6, r7, y0, y1, y2, y3, y4, y5, y6, y7⟩ := HM10.out.r8.facts
  have hq1 := HM10.out.r8.lt
  have HD := Lib.hid ((HM10.out.cast (out' := out ++ ((1, (nmW (hdB r))) :: tEq :: (1, (nmW (hdB (tlB r)))) :: (argsT aa.1 ++ [tSemi]))) (by first | rfl | simp only [List.append_assoc, List.cons_append, List.nil_append])).done (s := sCall (nmW (hdB r)) (nmW (hdB (tlB r))) (aa.1.map Tr.ex)) ⟨⟨okI_n (k := 7) ⟨by decide, by decide⟩, okI_n (k := 0) ⟨by decide, by decide⟩, okI_n (k := 0) ⟨by decide, by decide⟩, nmW_le _, nmW_le _⟩, HE.out, S3.SR.nil none 0, S3.SR.nil none 0⟩ (.int .i64 7) (.int .i64 0) (.string (B (nmW (hdB r)))) (.int .i64 0) (.string (B (nmW (hdB (tlB r))))) (.slice A aa.1.length c) (.slice none 0 0) (.slice none 0 0))
  clear HM10
  go_wp2_with fail
  exact bodyPost_ret (v := S3.sV (sCall (nmW (hdB r)) (nmW (hdB (tlB r))) (aa.1.map Tr.ex)) (.slice A aa.1.length c) (.slice none 0 0) (.slice none 0 0)) (by simp [results, Tryz.results12, go_sem, r0, r1, r2, r3, r4, r5, r6, r7]) rfl HD.out
set_option maxRecDepth 100000 in
set_option maxHeartbeats 8000000 in
theorem stM_call00 {W : World} {p M lf : Nat} {all cs : List Nat} {out : TL} (h : MkI W p M all cs ((lf : Int) + 1) out) (hlf : lf ≤ 1000) (deep : Int) (hdz : ¬ deep ≤ 0) (hk : hdB cs % 10 = 6) (hm : ¬ 128 ≤ hdB cs) (hlen : out.length + ((1, nmW (hdB (tlB cs))) :: (argsT (mkAs (hdB (tlB (tlB cs)) % 4) (tlB (tlB (tlB cs)))).1 ++ [tSemi])).length ≤ 1000000) :
    Calls Tryz.prog 12 #[mpt p, .int .i64 deep] W (StP W p M all out ⟨sCall [] (nmW (hdB (tlB cs))) ((mkAs (hdB (tlB (tlB cs)) % 4) (tlB (tlB (tlB cs)))).1.map Tr.ex), (1, nmW (hdB (tlB cs))) :: (argsT (mkAs (hdB (tlB (tlB cs)) % 4) (tlB (tlB (tlB cs)))).1 ++ [tSemi]), lf, (mkAs (hdB (tlB (tlB cs)) % 4) (tlB (tlB (tlB cs)))).2⟩) := by
  have hp := h.p_lt
  have hby := h.byt.tl
  have h256 := h.byt.hd
  have H0 := Lib.hid h
  have C := Lib.hid (byteM (h.al sZ))
  have hwl : IntKind.i64.wrap (lf : Int) = (lf : Int) := IntWalk.i64_in _ (by omega)
  have qk : (hdB cs : Int) % 10 = 6 := by omega
  have qm : ¬ (128 : Int) ≤ (hdB cs : Int) := by omega
  clear h
  generalize hb : hdB cs = b at *
  generalize hr : tlB cs = r at *
  go_enter Tryz.func12, Tryz.ntmps12
  try simp only [List.append_eq, List.cons_append, List.nil_append]
  go_wp2_with fail
  refine C.out.mono ?_
  rintro E w1 ⟨rfl, hI, hF⟩
  have HM2 := Lib.hid (MidS.start (lf := (lf : Int)) H0.out hI hF 7)
  have hz2 : ((w1.setCell ⟨p, 2, none⟩ (.int .i64 (lf : Int))).alloc (sK 7)).heap.size = w1.heap.size + 1 := by rw [S3.sz1]; simp [World.setCell]
  have hp1 := hI.p_lt
  have hq2 : w1.heap.size < ((w1.setCell ⟨p, 2, none⟩ (.int .i64 (lf : Int))).alloc (sK 7)).heap.size := by rw [hz2]; omega
  obtain ⟨j0, j1, j2, j3⟩ : w1.cell? ⟨p, 0, none⟩ = w1.cell? ⟨p, 0, none⟩ ∧ True ∧ w1.cell? ⟨p, 2, none⟩ = some (.int .i64 ((lf : Int) + 1)) ∧ w1.frozen? ⟨p, 2, none⟩ = false := by
    obtain ⟨⟨_, _, _, _, _, _, h4, _⟩, _⟩ := hI
    exact ⟨rfl, trivial, (mk_row h4).2.2.1, mk_froz h4⟩
  clear j0 j1 hI hF C H0
  obtain ⟨g0, g1, g2, g3, g4, g5, g6, g7⟩ := HM2.out.facts
  go_wp2_with fail
  generalize w1.heap.size = q at *
  generalize (w1.setCell ⟨p, 2, none⟩ (.int .i64 (lf : Int))).alloc (sK 7) = w2 at *
  have hqq := HM2.out.pt.2.1
  have N := Lib.hid (nameM HM2.out.mki (by first | omega | (simp; omega) | (simp at hlen ⊢; omega)))
  refine N.out.mono ?_
  rintro E w3 ⟨rfl, hI, hF⟩
  have hM3 := HM2.out.step hI hF
  have z4 := hM3.froz (i := 4)
  obtain ⟨g0, g1, g2, g3, g4, g5, g6, g7⟩ := hM3.facts
  have hqm := hM3.pt.2.1
  have HM4 := Lib.hid (hM3.set4 (.string (B (nmW (hdB r)))))
  have hz4 : (w3.setCell ⟨q, 4, none⟩ (.string (B (nmW (hdB r))))).heap.size = w3.heap.size := by simp [World.setCell]
  clear N hI hF HM2 hM3
  go_wp2_with fail
  generalize w3.setCell ⟨q, 4, none⟩ (.string (B (nmW (hdB r)))) = w4 at *
  have X := argsM HM4.out.mki (by first | omega | (simp; omega) | (simp at hlen ⊢; omega))
  have hal := (mkAs_ok (hdB (tlB r) % 4) (tlB (tlB r)) (by first | exact hby.tl | exact hby.tl.tl | exact hby.tl.tl.tl)).2.1
  have hm3 : hdB (tlB r) % 4 ≤ 3 := by omega
  generalize hrr : mkAs (hdB (tlB r) % 4) (tlB (tlB r)) = aa at *
  have X := Lib.hid X
  have hqx : q < w4.heap.size := HM4.out.pt.2.1
  refine X.out.mono ?_
  rintro E w5 ⟨A, c, rfl, hEr, hI, hF⟩
  have hM5 := HM4.out.step hI hF
  have z5 := hM5.froz (i := 5)
  obtain ⟨g0, g1, g2, g3, g4, g5, g6, g7⟩ := hM5.facts
  have hqm := hM5.pt.2.1
  have HM6 := Lib.hid (hM5.set5 (.slice A aa.1.length c))
  have HE := Lib.hid (hM5.er (i := 5) (u := .slice A aa.1.length c) (hEr.keep (R' := PtM p (q + 1) w5) (fun _ h => h.mono (by omega)) fun _ _ _ => rfl))
  have hz6 : (w5.setCell ⟨q, 5, none⟩ (.slice A aa.1.length c)).heap.size = w5.heap.size := by simp [World.setCell]
  clear hI hF hEr X hal HM4 hM5
  go_wp2_with fail
  generalize w5.setCell ⟨q, 5, none⟩ (.slice A aa.1.length c) = w6 at *
  have hS : StrL (w6.alloc (.cells #[.string ⟨#[59]⟩] 9)) (w6.alloc (.cells #[.string ⟨#[59]⟩] 9)).heap.size (.slice (some ⟨w6.heap.size, 0, none⟩) 1 1) [[59]] := strL_new w6 [[59]] 9 rfl
  have D := addM (HM6.out.mki.al (.cells #[.string ⟨#[59]⟩] 9)) hS (by simp) (by first | omega | (simp; omega) | (simp at hlen ⊢; omega))
  rw [show List.map wtk [[59]] = [tSemi] by decide +kernel] at D
  rw [hz6] at D
  have D := Lib.hid D
  have HX := Lib.hid (HM6.out.al (.cells #[.string ⟨#[59]⟩] 9))
  have hpx := HM6.out.p_lt
  refine D.out.mono ?_
  rintro E w7 ⟨rfl, hI, hF⟩
  have HM7 := Lib.hid (HX.out.step hI hF)
  have HE := Lib.hid (er_frm' HE.out ((FrM.al _ _ hpx).trans hF))
  clear hS D HX hpx hI hF HM6 hz6
  obtain ⟨g0, g1, g2, g3, g4, g5, g6, g7⟩ := HM7.out.facts
  have hqm := HM7.out.pt.2.1
  obtain ⟨z0, z1, z2, z3, z4, z5, z6, z7, r0, r1, r2, r3, r4, r5, r6, r7, y0, y1, y2, y3, y4, y5, y6, y7⟩ := HM7.out.r8.facts
  have hq1 := HM7.out.r8.lt
  have HD := Lib.hid ((HM7.out.cast (out' := out ++ ((1, (nmW (hdB r))) :: (argsT aa.1 ++ [tSemi]))) (by first | rfl | simp only [List.append_assoc, List.cons_append, List.nil_append])).done (s := sCall [] (nmW (hdB r)) (aa.1.map Tr.ex)) ⟨⟨okI_n (k := 7) ⟨by decide, by decide⟩, okI_n (k := 0) ⟨by decide, by decide⟩, okI_n (k := 0) ⟨by decide, by decide⟩, by simp, nmW_le _⟩, HE.out, S3.SR.nil none 0, S3.SR.nil none 0⟩ (.int .i64 7) (.int .i64 0) (.string ⟨#[]⟩) (.int .i64 0) (.string (B (nmW (hdB r)))) (.slice A aa.1.length c) (.slice none 0 0) (.slice none 0 0))
  clear HM7
  go_wp2_with fail
  exact bodyPost_ret (v := S3.sV (sCall [] (nmW (hdB r)) (aa.1.map Tr.ex)) (.slice A aa.1.length c) (.slice none 0 0) (.slice none 0 0)) (by simp [results, Tryz.results12, go_sem, r0, r1, r2, r3, r4, r5, r6, r7]) rfl HD.out
set_option maxRecDepth 100000 in
set_option maxHeartbeats 8000000 in
theorem stM_call01 {W : World} {p M lf : Nat} {all cs : List Nat} {out : TL} (h : MkI W p M all cs ((lf : Int) + 1) out) (hlf : lf ≤ 1000) (deep : Int) (hdz : ¬ deep ≤ 0) (hk : hdB cs % 10 = 6) (hm : 128 ≤ hdB cs) (hlen : out.length + ((1, nmW (hdB (tlB cs))) :: tEq :: (1, nmW (hdB (tlB (tlB cs)))) :: (argsT (mkAs (hdB (tlB (tlB (tlB cs))) % 4) (tlB (tlB (tlB (tlB cs))))).1 ++ [tSemi])).length ≤ 1000000) :
    Calls Tryz.prog 12 #[mpt p, .int .i64 deep] W (StP W p M all out ⟨sCall (nmW (hdB (tlB cs))) (nmW (hdB (tlB (tlB cs)))) ((mkAs (hdB (tlB (tlB (tlB cs))) % 4) (tlB (tlB (tlB (tlB cs))))).1.map Tr.ex), (1, nmW (hdB (tlB cs))) :: tEq :: (1, nmW (hdB (tlB (tlB cs)))) :: (argsT (mkAs (hdB (tlB (tlB (tlB cs))) % 4) (tlB (tlB (tlB (tlB cs))))).1 ++ [tSemi]), lf, (mkAs (hdB (tlB (tlB (tlB cs))) % 4) (tlB (tlB (tlB (tlB cs))))).2⟩) := by
  have hp := h.p_lt
  have hby := h.byt.tl
  have h256 := h.byt.hd
  have H0 := Lib.hid h
  have C := Lib.hid (byteM (h.al sZ))
  have hwl : IntKind.i64.wrap (lf : Int) = (lf : Int) := IntWalk.i64_in _ (by omega)
  have qk : (hdB cs : Int) % 10 = 6 := by omega
  have qm : (128 : Int) ≤ (hdB cs : Int) := by omega
  clear h
  generalize hb : hdB cs = b at *
  generalize hr : tlB cs = r at *
  go_enter Tryz.func12, Tryz.ntmps12
  try simp only [List.append_eq, List.cons_append, List.nil_append]
  go_wp2_with fail
  refine C.out.mono ?_
  rintro E w1 ⟨rfl, hI, hF⟩
  have HM2 := Lib.hid (MidS.start (lf := (lf : Int)) H0.out hI hF 7)
  have hz2 : ((w1.setCell ⟨p, 2, none⟩ (.int .i64 (lf : Int))).alloc (sK 7)).heap.size = w1.heap.size + 1 := by rw [S3.sz1]; simp [World.setCell]
  have hp1 := hI.p_lt
  have hq2 : w1.heap.size < ((w1.setCell ⟨p, 2, none⟩ (.int .i64 (lf : Int))).alloc (sK 7)).heap.size := by rw [hz2]; omega
  obtain ⟨j0, j1, j2, j3⟩ : w1.cell? ⟨p, 0, none⟩ = w1.cell? ⟨p, 0, none⟩ ∧ True ∧ w1.cell? ⟨p, 2, none⟩ = some (.int .i64 ((lf : Int) + 1)) ∧ w1.frozen? ⟨p, 2, none⟩ = false := by
    obtain ⟨⟨_, _, _, _, _, _, h4, _⟩, _⟩ := hI
    exact ⟨rfl, trivial, (mk_row h4).2.2.1, mk_froz h4⟩
  clear j0 j1 hI hF C H0
  obtain ⟨g0, g1, g2, g3, g4, g5, g6, g7⟩ := HM2.out.facts
  go_wp2_with fail
  generalize w1.heap.size = q at *
  generalize (w1.setCell ⟨p, 2, none⟩ (.int .i64 (lf : Int))).alloc (sK 7) = w2 at *
  have hqq := HM2.out.pt.2.1
  have N := Lib.hid (nameM HM2.out.mki (by first | omega | (simp; omega) | (simp at hlen ⊢; omega)))
  refine N.out.mono ?_
  rintro E w3 ⟨rfl, hI, hF⟩
  have hM3 := HM2.out.step hI hF
  have z2 := hM3.froz (i := 2)
  obtain ⟨g0, g1, g2, g3, g4, g5, g6, g7⟩ := hM3.facts
  have hqm := hM3.pt.2.1
  have HM4 := Lib.hid (hM3.set2 (.string (B (nmW (hdB r)))))
  have hz4 : (w3.setCell ⟨q, 2, none⟩ (.string (B (nmW (hdB r))))).heap.size = w3.heap.size := by simp [World.setCell]
  clear N hI hF HM2 hM3
  go_wp2_with fail
  generalize w3.setCell ⟨q, 2, none⟩ (.string (B (nmW (hdB r)))) = w4 at *
  have hS : StrL (w4.alloc (.cells #[.string ⟨#[61]⟩] 9)) (w4.alloc (.cells #[.string ⟨#[61]⟩] 9)).heap.size (.slice (some ⟨w4.heap.size, 0, none⟩) 1 1) [[61]] := strL_new w4 [[61]] 9 rfl
  have D := addM (HM4.out.mki.al (.cells #[.string ⟨#[61]⟩] 9)) hS (by simp) (by first | omega | (simp; omega) | (simp at hlen ⊢; omega))
  rw [show List.map wtk [[61]] = [tEq] by decide +kernel] at D
  rw [hz4] at D
  have D := Lib.hid D
  have HX := Lib.hid (HM4.out.al (.cells #[.string ⟨#[61]⟩] 9))
  have hpx := HM4.out.p_lt
  refine D.out.mono ?_
  rintro E w5 ⟨rfl, hI, hF⟩
  have HM5 := Lib.hid (HX.out.step hI hF)
  clear hS D HX hpx hI hF HM4 hz4
  obtain ⟨g0, g1, g2, g3, g4, g5, g6, g7⟩ := HM5.out.facts
  have hqn := HM5.out.pt.2.1
  go_wp2_with fail
  have N := Lib.hid (nameM HM5.out.mki (by first | omega | (simp; omega) | (simp at hlen ⊢; omega)))
  refine N.out.mono ?_
  rintro E w6 ⟨rfl, hI, hF⟩
  have hM6 := HM5.out.step hI hF
  have z4 := hM6.froz (i := 4)
  obtain ⟨g0, g1, g2, g3, g4, g5, g6, g7⟩ := hM6.facts
  have hqm := hM6.pt.2.1
  have HM7 := Lib.hid (hM6.set4 (.string (B (nmW (hdB (tlB r))))))
  have hz7 : (w6.setCell ⟨q, 4, none⟩ (.string (B (nmW (hdB (tlB r)))))).heap.size = w6.heap.size := by simp [World.setCell]
  clear N hI hF HM5 hM6
  go_wp2_with fail
  generalize w6.setCell ⟨q, 4, none⟩ (.string (B (nmW (hdB (tlB r))))) = w7 at *
  have X := argsM HM7.out.mki (by first | omega | (simp; omega) | (simp at hlen ⊢; omega))
  have hal := (mkAs_ok (hdB (tlB (tlB r)) % 4) (tlB (tlB (tlB r))) (by first | exact hby.tl | exact hby.tl.tl | exact hby.tl.tl.tl)).2.1
  have hm3 : hdB (tlB (tlB r)) % 4 ≤ 3 := by omega
  generalize hrr : mkAs (hdB (tlB (tlB r)) % 4) (tlB (tlB (tlB r))) = aa at *
  have X := Lib.hid X
  have hqx : q < w7.heap.size := HM7.out.pt.2.1
  refine X.out.mono ?_
  rintro E w8 ⟨A, c, rfl, hEr, hI, hF⟩
  have hM8 := HM7.out.step hI hF
  have z5 := hM8.froz (i := 5)
  obtain ⟨g0, g1, g2, g3, g4, g5, g6, g7⟩ := hM8.facts
  have hqm := hM8.pt.2.1
  have HM9 := Lib.hid (hM8.set5 (.slice A aa.1.length c))
  have HE := Lib.hid (hM8.er (i := 5) (u := .slice A aa.1.length c) (hEr.keep (R' := PtM p (q + 1) w8) (fun _ h => h.mono (by omega)) fun _ _ _ => rfl))
  have hz9 : (w8.setCell ⟨q, 5, none⟩ (.slice A aa.1.length c)).heap.size = w8.heap.size := by simp [World.setCell]
  clear hI hF hEr X hal HM7 hM8
  go_wp2_with fail
  generalize w8.setCell ⟨q, 5, none⟩ (.slice A aa.1.length c) = w9 at *
  have hS : StrL (w9.alloc (.cells #[.string ⟨#[59]⟩] 9)) (w9.alloc (.cells #[.string ⟨#[59]⟩] 9)).heap.size (.slice (some ⟨w9.heap.size, 0, none⟩) 1 1) [[59]] := strL_new w9 [[59]] 9 rfl
  have D := addM (HM9.out.mki.al (.cells #[.string ⟨#[59]⟩] 9)) hS (by simp) (by first | omega | (simp; omega) | (simp at hlen ⊢; omega))
  rw [show List.map wtk [[59]] = [tSemi] by decide +kernel] at D
  rw [hz9] at D
  have D := Lib.hid D
  have HX := Lib.hid (HM9.out.al (.cells #[.string ⟨#[59]⟩] 9))
  have hpx := HM9.out.p_lt
  refine D.out.mono ?_
  rintro E w10 ⟨rfl, hI, hF⟩
  have HM10 := Lib.hid (HX.out.step hI hF)
  have HE := Lib.hid (er_frm' HE.out ((FrM.al _ _ hpx).trans hF))
  clear hS D HX hpx hI hF HM9 hz9
  obtain ⟨g0, g1, g2, g3, g4, g5, g6, g7⟩ := HM10.out.facts
  have hqm := HM10.out.pt.2.1
  obtain ⟨z0, z1, z2, z3, z4, z5, z6, z7, r0, r1, r2, r3, r4, r5, r6, r7, y0, y1, y2, y3, y4, y5, y6, y7⟩ := HM10.out.r8.facts
  have hq1 := HM10.out.r8.lt
  have HD := Lib.hid ((HM10.out.cast (out' := out ++ ((1, (nmW (hdB r))) :: tEq :: (1, (nmW (hdB (tlB r)))) :: (argsT aa.1 ++ [tSemi]))) (by first | rfl | simp only [List.append_assoc, List.cons_append, List.nil_append])).done (s := sCall (nmW (hdB r)) (nmW (hdB (tlB r))) (aa.1.map Tr.ex)) ⟨⟨okI_n (k := 7) ⟨by decide, by decide⟩, okI_n (k := 0) ⟨by decide, by decide⟩, okI_n (k := 0) ⟨by decide, by decide⟩, nmW_le _, nmW_le _⟩, HE.out, S3.SR.nil none 0, S3.SR.nil none 0⟩ (.int .i64 7) (.int .i64 0) (.string (B (nmW (hdB r)))) (.int .i64 0) (.string (B (nmW (hdB (tlB r))))) (.slice A aa.1.length c) (.slice none 0 0) (.slice none 0 0))
  clear HM10
  go_wp2_with fail
  exact bodyPost_ret (v := S3.sV (sCall (nmW (hdB r)) (nmW (hdB (tlB r))) (aa.1.map Tr.ex)) (.slice A aa.1.length c) (.slice none 0 0) (.slice none 0 0)) (by simp [results, Tryz.results12, go_sem, r0, r1, r2, r3, r4, r5, r6, r7]) rfl HD.out
end Go.Proofs.YtipepljmfgjbpaaGreatDoor.E6

namespace Go.Proofs.YtipepljmfgjbpaaGreatDoor.E6
open Go Go.RowKit Go.Proofs.YtipepljmfgjbpaaGreatDoor Go.Proofs.YtipepljmfgjbpaaGreatDoor.E5

theorem row4_at (j : Nat) (h1 : 1 ≤ j) (h2 : j ≤ 3) : (#[.string ⟨#[]⟩, .string ⟨#[105, 110, 116]⟩, .string ⟨#[98, 111, 111, 108]⟩, .string ⟨#[97, 114, 114, 97, 121]⟩] : Array Value)[j]? = some (.string (B (wordT (j : Int)))) := by
  match j, h1, h2 with
  | 1, _, _ | 2, _, _ | 3, _, _ => rfl
theorem wt_all : ∀ i : Fin 3, wtk (wordT ((i.1 + 1 : Nat) : Int)) = (3, wordT ((i.1 + 1 : Nat) : Int)) ∧ wordT ((i.1 + 1 : Nat) : Int) ≠ [] ∧ (wordT ((i.1 + 1 : Nat) : Int)).length ≤ 5 := by decide +kernel
theorem wt_wtk {j : Nat} (h1 : 1 ≤ j) (h2 : j ≤ 3) : wtk (wordT (j : Int)) = (3, wordT (j : Int)) ∧ wordT (j : Int) ≠ [] ∧ (wordT (j : Int)).length ≤ 5 := by
  have := wt_all ⟨j - 1, by omega⟩
  simp only [show j - 1 + 1 = j by omega] at this
  exact this
set_option maxRecDepth 100000 in
set_option maxHeartbeats 8000000 in
theorem stM_var10 {W : World} {p M lf : Nat} {all cs : List Nat} {out : TL} (h : MkI W p M all cs ((lf : Int) + 1) out) (hlf : lf ≤ 1000) (deep : Int) (hdz : deep ≤ 0) (hk : hdB cs % 10 = 0) (hm : ¬ 128 ≤ hdB cs) (hlen : out.length + ([(3, wVar), (1, nmW (hdB (tlB cs))), (3, wordT (1 + ((hdB cs / 10 % 3 : Nat) : Int))), tSemi]).length ≤ 1000000) :
    Calls Tryz.prog 12 #[mpt p, .int .i64 deep] W (StP W p M all out ⟨sVar (nmW (hdB (tlB cs))) (1 + ((hdB cs / 10 % 3 : Nat) : Int)) [], [(3, wVar), (1, nmW (hdB (tlB cs))), (3, wordT (1 + ((hdB cs / 10 % 3 : Nat) : Int))), tSemi], lf, tlB (tlB cs)⟩) := by
  have hp := h.p_lt
  have hby := h.byt.tl
  have h256 := h.byt.hd
  have H0 := Lib.hid h
  have C := Lib.hid (byteM (h.al sZ))
  have hwl : IntKind.i64.wrap (lf : Int) = (lf : Int) := IntWalk.i64_in _ (by omega)
  have qk : (hdB cs : Int) % 10 = 0 := by omega
  have qm : ¬ (128 : Int) ≤ (hdB cs : Int) := by omega
  obtain ⟨j, hj⟩ : ∃ j, j = 1 + hdB cs / 10 % 3 := ⟨_, rfl⟩
  have hj1 : 1 ≤ j := by omega
  have hj2 : j ≤ 3 := by omega
  have hjr : 1 + (hdB cs : Int) / 10 % 3 = (j : Int) := by omega
  rw [show (1 + ((hdB cs / 10 % 3 : Nat) : Int)) = (j : Int) by omega] at hlen ⊢
  have hwj : IntKind.i64.wrap (j : Int) = (j : Int) := IntWalk.i64_in _ (by omega)
  obtain ⟨hsw, hs0, hsl⟩ := wt_wtk hj1 hj2
  have hrow := row4_at j hj1 hj2
  have hjt : ((j : Int)).toNat = j := by omega
  have hjl : (j : Int) < 4 := by omega
  have hj0 : (0 : Int) ≤ (j : Int) := by omega
  clear hj
  generalize hsg : wordT (j : Int) = sg at *
  clear h
  generalize hb : hdB cs = b at *
  generalize hr : tlB cs = r at *
  go_enter Tryz.func12, Tryz.ntmps12
  try simp only [List.append_eq, List.cons_append, List.nil_append]
  go_wp2_with fail
  refine C.out.mono ?_
  rintro E w1 ⟨rfl, hI, hF⟩
  have HM2 := Lib.hid (MidS.start (lf := (lf : Int)) H0.out hI hF 1)
  have hz2 : ((w1.setCell ⟨p, 2, none⟩ (.int .i64 (lf : Int))).alloc (sK 1)).heap.size = w1.heap.size + 1 := by rw [S3.sz1]; simp [World.setCell]
  have hp1 := hI.p_lt
  have hq2 : w1.heap.size < ((w1.setCell ⟨p, 2, none⟩ (.int .i64 (lf : Int))).alloc (sK 1)).heap.size := by rw [hz2]; omega
  obtain ⟨j0, j1, j2, j3⟩ : w1.cell? ⟨p, 0, none⟩ = w1.cell? ⟨p, 0, none⟩ ∧ True ∧ w1.cell? ⟨p, 2, none⟩ = some (.int .i64 ((lf : Int) + 1)) ∧ w1.frozen? ⟨p, 2, none⟩ = false := by
    obtain ⟨⟨_, _, _, _, _, _, h4, _⟩, _⟩ := hI
    exact ⟨rfl, trivial, (mk_row h4).2.2.1, mk_froz h4⟩
  clear j0 j1 hI hF C H0
  obtain ⟨g0, g1, g2, g3, g4, g5, g6, g7⟩ := HM2.out.facts
  go_wp2_with fail
  generalize w1.heap.size = q at *
  generalize (w1.setCell ⟨p, 2, none⟩ (.int .i64 (lf : Int))).alloc (sK 1) = w2 at *
  have hS : StrL (w2.alloc (.cells #[.string ⟨#[118, 97, 114]⟩] 9)) (w2.alloc (.cells #[.string ⟨#[118, 97, 114]⟩] 9)).heap.size (.slice (some ⟨w2.heap.size, 0, none⟩) 1 1) [[118, 97, 114]] := strL_new w2 [[118, 97, 114]] 9 rfl
  have D := addM (HM2.out.mki.al (.cells #[.string ⟨#[118, 97, 114]⟩] 9)) hS (by simp) (by first | omega | (simp; omega) | (simp at hlen ⊢; omega))
  rw [show List.map wtk [[118, 97, 114]] = [(3, wVar)] by decide +kernel] at D
  rw [hz2] at D
  have D := Lib.hid D
  have HX := Lib.hid (HM2.out.al (.cells #[.string ⟨#[118, 97, 114]⟩] 9))
  have hpx := HM2.out.p_lt
  refine D.out.mono ?_
  rintro E w3 ⟨rfl, hI, hF⟩
  have HM3 := Lib.hid (HX.out.step hI hF)
  clear hS D HX hpx hI hF HM2 hz2
  have N := Lib.hid (nameM HM3.out.mki (by first | omega | (simp; omega) | (simp at hlen ⊢; omega)))
  obtain ⟨g0, g1, g2, g3, g4, g5, g6, g7⟩ := HM3.out.facts
  have hqn := HM3.out.pt.2.1
  go_wp2_with fail
  refine N.out.mono ?_
  rintro E w4 ⟨rfl, hI, hF⟩
  have hM4 := HM3.out.step hI hF
  have z2 := hM4.froz (i := 2)
  have z3 := (hM4.set2 (.string (B (nmW (hdB r))))).froz (i := 3)
  obtain ⟨g0, g1, g2, g3, g4, g5, g6, g7⟩ := hM4.facts
  have hqm := hM4.pt.2.1
  have hm3 := (hM4.set2 (.string (B (nmW (hdB r))))).set3 (.int .i64 (j : Int))
  have HM5 := Lib.hid hm3
  have l3 := (hm3.al (.cells #[.string ⟨#[]⟩, .string ⟨#[105, 110, 116]⟩, .string ⟨#[98, 111, 111, 108]⟩, .string ⟨#[97, 114, 114, 97, 121]⟩] 9)).facts.2.2.2.1
  have hz5 : ((w4.setCell ⟨q, 2, none⟩ (.string (B (nmW (hdB r))))).setCell ⟨q, 3, none⟩ (.int .i64 (j : Int))).heap.size = w4.heap.size := by simp [World.setCell]
  have hc4 := S3.newCell ((w4.setCell ⟨q, 2, none⟩ (.string (B (nmW (hdB r))))).setCell ⟨q, 3, none⟩ (.int .i64 (j : Int))) #[.string ⟨#[]⟩, .string ⟨#[105, 110, 116]⟩, .string ⟨#[98, 111, 111, 108]⟩, .string ⟨#[97, 114, 114, 97, 121]⟩] 9 j _ hrow
  rw [hz5] at hc4
  have hS := strL_one (((w4.setCell ⟨q, 2, none⟩ (.string (B (nmW (hdB r))))).setCell ⟨q, 3, none⟩ (.int .i64 (j : Int))).alloc (.cells #[.string ⟨#[]⟩, .string ⟨#[105, 110, 116]⟩, .string ⟨#[98, 111, 111, 108]⟩, .string ⟨#[97, 114, 114, 97, 121]⟩] 9)) (s := sg) hs0 (by omega)
  rw [S3.sz1 ((w4.setCell ⟨q, 2, none⟩ (.string (B (nmW (hdB r))))).setCell ⟨q, 3, none⟩ (.int .i64 (j : Int))), hz5] at hS
  have HX := Lib.hid ((hm3.al (.cells #[.string ⟨#[]⟩, .string ⟨#[105, 110, 116]⟩, .string ⟨#[98, 111, 111, 108]⟩, .string ⟨#[97, 114, 114, 97, 121]⟩] 9)).al (.cells #[.string (B sg)] 9))
  have D := addM HX.out.mki hS (by simp) (by first | omega | (simp; omega) | (simp at hlen ⊢; omega))
  rw [show List.map wtk [sg] = [(3, sg)] by rw [List.map, List.map, hsw]] at D
  have D := Lib.hid D
  clear N hI hF HM3 hM4 hm3 hS
  go_wp2_with fail
  refine D.out.mono ?_
  rintro E w6 ⟨rfl, hI, hF⟩
  have HM6 := Lib.hid (HX.out.step hI hF)
  clear hI hF D HX HM5 hc4 l3 hz5 g0 g1 g2 g3 g4 g5 g6 g7 z2 z3
  obtain ⟨g0, g1, g2, g3, g4, g5, g6, g7⟩ := HM6.out.facts
  have hqn := HM6.out.pt.2.1
  go_wp2_with fail
  have hS : StrL (w6.alloc (.cells #[.string ⟨#[59]⟩] 9)) (w6.alloc (.cells #[.string ⟨#[59]⟩] 9)).heap.size (.slice (some ⟨w6.heap.size, 0, none⟩) 1 1) [[59]] := strL_new w6 [[59]] 9 rfl
  have D := addM (HM6.out.mki.al (.cells #[.string ⟨#[59]⟩] 9)) hS (by simp) (by first | omega | (simp; omega) | (simp at hlen ⊢; omega))
  rw [show List.map wtk [[59]] = [tSemi] by decide +kernel] at D
  have D := Lib.hid D
  have HX := Lib.hid (HM6.out.al (.cells #[.string ⟨#[59]⟩] 9))
  have hpx := HM6.out.p_lt
  refine D.out.mono ?_
  rintro E w7 ⟨rfl, hI, hF⟩
  have HM7 := Lib.hid (HX.out.step hI hF)
  clear hS D HX hpx hI hF HM6
  obtain ⟨g0, g1, g2, g3, g4, g5, g6, g7⟩ := HM7.out.facts
  have hqm := HM7.out.pt.2.1
  obtain ⟨z0, z1, z2, z3, z4, z5, z6, z7, r0, r1, r2, r3, r4, r5, r6, r7, y0, y1, y2, y3, y4, y5, y6, y7⟩ := HM7.out.r8.facts
  have hq1 := HM7.out.r8.lt
  have HD := Lib.hid ((HM7.out.cast (out' := out ++ ([(3, wVar), (1, (nmW (hdB r))), (3, sg), tSemi])) (by first | rfl | simp only [List.append_assoc, List.cons_append, List.nil_append])).done (s := sVar (nmW (hdB r)) (j : Int) []) ⟨⟨okI_n (k := 1) ⟨by decide, by decide⟩, okI_n (k := 0) ⟨by decide, by decide⟩, okI_n (k := (j : Int)) ⟨by omega, by omega⟩, nmW_le _, by simp⟩, S3.ER.nil none 0, S3.SR.nil none 0, S3.SR.nil none 0⟩ (.int .i64 1) (.int .i64 0) (.string (B (nmW (hdB r)))) (.int .i64 (j : Int)) (.string ⟨#[]⟩) (.slice none 0 0) (.slice none 0 0) (.slice none 0 0))
  clear HM7
  go_wp2_with fail
  exact bodyPost_ret (v := S3.sV (sVar (nmW (hdB r)) (j : Int) []) (.slice none 0 0) (.slice none 0 0) (.slice none 0 0)) (by simp [results, Tryz.results12, go_sem, r0, r1, r2, r3, r4, r5, r6, r7]) rfl HD.out
set_option maxRecDepth 100000 in
set_option maxHeartbeats 8000000 in
theorem stM_var11 {W : World} {p M lf : Nat} {all cs : List Nat} {out : TL} (h : MkI W p M all cs ((lf : Int) + 1) out) (hlf : lf ≤ 1000) (deep : Int) (hdz : deep ≤ 0) (hk : hdB cs % 10 = 0) (hm : 128 ≤ hdB cs) (hlen : out.length + ((3, wVar) :: (1, nmW (hdB (tlB cs))) :: (3, wordT (1 + ((hdB cs / 10 % 3 : Nat) : Int))) :: tEq :: ((mkT 2 (tlB (tlB cs))).1.tk ++ [tSemi])).length ≤ 1000000) :
    Calls Tryz.prog 12 #[mpt p, .int .i64 deep] W (StP W p M all out ⟨sVar (nmW (hdB (tlB cs))) (1 + ((hdB cs / 10 % 3 : Nat) : Int)) [(mkT 2 (tlB (tlB cs))).1.ex], (3, wVar) :: (1, nmW (hdB (tlB cs))) :: (3, wordT (1 + ((hdB cs / 10 % 3 : Nat) : Int))) :: tEq :: ((mkT 2 (tlB (tlB cs))).1.tk ++ [tSemi]), lf, (mkT 2 (tlB (tlB cs))).2⟩) := by
  have hp := h.p_lt
  have hby := h.byt.tl
  have h256 := h.byt.hd
  have H0 := Lib.hid h
  have C := Lib.hid (byteM (h.al sZ))
  have hwl : IntKind.i64.wrap (lf : Int) = (lf : Int) := IntWalk.i64_in _ (by omega)
  have qk : (hdB cs : Int) % 10 = 0 := by omega
  have qm : (128 : Int) ≤ (hdB cs : Int) := by omega
  obtain ⟨j, hj⟩ : ∃ j, j = 1 + hdB cs / 10 % 3 := ⟨_, rfl⟩
  have hj1 : 1 ≤ j := by omega
  have hj2 : j ≤ 3 := by omega
  have hjr : 1 + (hdB cs : Int) / 10 % 3 = (j : Int) := by omega
  rw [show (1 + ((hdB cs / 10 % 3 : Nat) : Int)) = (j : Int) by omega] at hlen ⊢
  have hwj : IntKind.i64.wrap (j : Int) = (j : Int) := IntWalk.i64_in _ (by omega)
  obtain ⟨hsw, hs0, hsl⟩ := wt_wtk hj1 hj2
  have hrow := row4_at j hj1 hj2
  have hjt : ((j : Int)).toNat = j := by omega
  have hjl : (j : Int) < 4 := by omega
  have hj0 : (0 : Int) ≤ (j : Int) := by omega
  clear hj
  generalize hsg : wordT (j : Int) = sg at *
  clear h
  generalize hb : hdB cs = b at *
  generalize hr : tlB cs = r at *
  go_enter Tryz.func12, Tryz.ntmps12
  try simp only [List.append_eq, List.cons_append, List.nil_append]
  go_wp2_with fail
  refine C.out.mono ?_
  rintro E w1 ⟨rfl, hI, hF⟩
  have HM2 := Lib.hid (MidS.start (lf := (lf : Int)) H0.out hI hF 1)
  have hz2 : ((w1.setCell ⟨p, 2, none⟩ (.int .i64 (lf : Int))).alloc (sK 1)).heap.size = w1.heap.size + 1 := by rw [S3.sz1]; simp [World.setCell]
  have hp1 := hI.p_lt
  have hq2 : w1.heap.size < ((w1.setCell ⟨p, 2, none⟩ (.int .i64 (lf : Int))).alloc (sK 1)).heap.size := by rw [hz2]; omega
  obtain ⟨j0, j1, j2, j3⟩ : w1.cell? ⟨p, 0, none⟩ = w1.cell? ⟨p, 0, none⟩ ∧ True ∧ w1.cell? ⟨p, 2, none⟩ = some (.int .i64 ((lf : Int) + 1)) ∧ w1.frozen? ⟨p, 2, none⟩ = false := by
    obtain ⟨⟨_, _, _, _, _, _, h4, _⟩, _⟩ := hI
    exact ⟨rfl, trivial, (mk_row h4).2.2.1, mk_froz h4⟩
  clear j0 j1 hI hF C H0
  obtain ⟨g0, g1, g2, g3, g4, g5, g6, g7⟩ := HM2.out.facts
  go_wp2_with fail
  generalize w1.heap.size = q at *
  generalize (w1.setCell ⟨p, 2, none⟩ (.int .i64 (lf : Int))).alloc (sK 1) = w2 at *
  have hS : StrL (w2.alloc (.cells #[.string ⟨#[118, 97, 114]⟩] 9)) (w2.alloc (.cells #[.string ⟨#[118, 97, 114]⟩] 9)).heap.size (.slice (some ⟨w2.heap.size, 0, none⟩) 1 1) [[118, 97, 114]] := strL_new w2 [[118, 97, 114]] 9 rfl
  have D := addM (HM2.out.mki.al (.cells #[.string ⟨#[118, 97, 114]⟩] 9)) hS (by simp) (by first | omega | (simp; omega) | (simp at hlen ⊢; omega))
  rw [show List.map wtk [[118, 97, 114]] = [(3, wVar)] by decide +kernel] at D
  rw [hz2] at D
  have D := Lib.hid D
  have HX := Lib.hid (HM2.out.al (.cells #[.string ⟨#[118, 97, 114]⟩] 9))
  have hpx := HM2.out.p_lt
  refine D.out.mono ?_
  rintro E w3 ⟨rfl, hI, hF⟩
  have HM3 := Lib.hid (HX.out.step hI hF)
  clear hS D HX hpx hI hF HM2 hz2
  have N := Lib.hid (nameM HM3.out.mki (by first | omega | (simp; omega) | (simp at hlen ⊢; omega)))
  obtain ⟨g0, g1, g2, g3, g4, g5, g6, g7⟩ := HM3.out.facts
  have hqn := HM3.out.pt.2.1
  go_wp2_with fail
  refine N.out.mono ?_
  rintro E w4 ⟨rfl, hI, hF⟩
  have hM4 := HM3.out.step hI hF
  have z2 := hM4.froz (i := 2)
  have z3 := (hM4.set2 (.string (B (nmW (hdB r))))).froz (i := 3)
  obtain ⟨g0, g1, g2, g3, g4, g5, g6, g7⟩ := hM4.facts
  have hqm := hM4.pt.2.1
  have hm3 := (hM4.set2 (.string (B (nmW (hdB r))))).set3 (.int .i64 (j : Int))
  have HM5 := Lib.hid hm3
  have l3 := (hm3.al (.cells #[.string ⟨#[]⟩, .string ⟨#[105, 110, 116]⟩, .string ⟨#[98, 111, 111, 108]⟩, .string ⟨#[97, 114, 114, 97, 121]⟩] 9)).facts.2.2.2.1
  have hz5 : ((w4.setCell ⟨q, 2, none⟩ (.string (B (nmW (hdB r))))).setCell ⟨q, 3, none⟩ (.int .i64 (j : Int))).heap.size = w4.heap.size := by simp [World.setCell]
  have hc4 := S3.newCell ((w4.setCell ⟨q, 2, none⟩ (.string (B (nmW (hdB r))))).setCell ⟨q, 3, none⟩ (.int .i64 (j : Int))) #[.string ⟨#[]⟩, .string ⟨#[105, 110, 116]⟩, .string ⟨#[98, 111, 111, 108]⟩, .string ⟨#[97, 114, 114, 97, 121]⟩] 9 j _ hrow
  rw [hz5] at hc4
  have hS := strL_one (((w4.setCell ⟨q, 2, none⟩ (.string (B (nmW (hdB r))))).setCell ⟨q, 3, none⟩ (.int .i64 (j : Int))).alloc (.cells #[.string ⟨#[]⟩, .string ⟨#[105, 110, 116]⟩, .string ⟨#[98, 111, 111, 108]⟩, .string ⟨#[97, 114, 114, 97, 121]⟩] 9)) (s := sg) hs0 (by omega)
  rw [S3.sz1 ((w4.setCell ⟨q, 2, none⟩ (.string (B (nmW (hdB r))))).setCell ⟨q, 3, none⟩ (.int .i64 (j : Int))), hz5] at hS
  have HX := Lib.hid ((hm3.al (.cells #[.string ⟨#[]⟩, .string ⟨#[105, 110, 116]⟩, .string ⟨#[98, 111, 111, 108]⟩, .string ⟨#[97, 114, 114, 97, 121]⟩] 9)).al (.cells #[.string (B sg)] 9))
  have D := addM HX.out.mki hS (by simp) (by first | omega | (simp; omega) | (simp at hlen ⊢; omega))
  rw [show List.map wtk [sg] = [(3, sg)] by rw [List.map, List.map, hsw]] at D
  have D := Lib.hid D
  clear N hI hF HM3 hM4 hm3 hS
  go_wp2_with fail
  refine D.out.mono ?_
  rintro E w6 ⟨rfl, hI, hF⟩
  have HM6 := Lib.hid (HX.out.step hI hF)
  clear hI hF D HX HM5 hc4 l3 hz5 g0 g1 g2 g3 g4 g5 g6 g7 z2 z3
  obtain ⟨g0, g1, g2, g3, g4, g5, g6, g7⟩ := HM6.out.facts
  have hqn := HM6.out.pt.2.1
  go_wp2_with fail
  have hS : StrL (w6.alloc (.cells #[.string ⟨#[61]⟩] 9)) (w6.alloc (.cells #[.string ⟨#[61]⟩] 9)).heap.size (.slice (some ⟨w6.heap.size, 0, none⟩) 1 1) [[61]] := strL_new w6 [[61]] 9 rfl
  have D := addM (HM6.out.mki.al (.cells #[.string ⟨#[61]⟩] 9)) hS (by simp) (by first | omega | (simp; omega) | (simp at hlen ⊢; omega))
  rw [show List.map wtk [[61]] = [tEq] by decide +kernel] at D
  have D := Lib.hid D
  have HX := Lib.hid (HM6.out.al (.cells #[.string ⟨#[61]⟩] 9))
  have hpx := HM6.out.p_lt
  refine D.out.mono ?_
  rintro E w7 ⟨rfl, hI, hF⟩
  have HM7 := Lib.hid (HX.out.step hI hF)
  clear hS D HX hpx hI hF HM6
  have X := exprM_all 2 (by omega) false w7 p M all _ _ _ HM7.out.mki (by first | (rw [tokT_false]; simp at hlen ⊢; omega) | (rw [tokT_false]; simp; omega))
  rw [show ((2 : Nat) : Int) + 1 = 3 from rfl, tokT_false] at X
  have hok := tr_okE6 (mkT_ok 2 (tlB r) (by first | exact hby | exact hby.tl | exact hby.tl.tl)).1
  generalize hrr : mkT 2 (tlB r) = rr at *
  have X := Lib.hid X
  have hqx : q < w7.heap.size := HM7.out.pt.2.1
  obtain ⟨g0, g1, g2, g3, g4, g5, g6, g7⟩ := HM7.out.facts
  have hqn := HM7.out.pt.2.1
  go_wp2_with fail
  refine X.out.mono ?_
  rintro E w8 ⟨A, kk, c, rfl, hEr, hI, hF⟩
  have hM8 := HM7.out.step hI hF
  have z5 := hM8.froz (i := 5)
  obtain ⟨g0, g1, g2, g3, g4, g5, g6, g7⟩ := hM8.facts
  have hqm := hM8.pt.2.1
  obtain ⟨i1, i2, hz9⟩ := hM8.one hEr hqx hok
  have HM9 := Lib.hid i1
  have HE := Lib.hid i2
  clear hI hF hEr hok X i1 i2 HM7 hM8
  go_wp2_with fail
  generalize (w8.setCell ⟨q, 5, none⟩ (.slice (some ⟨w8.heap.size, 0, none⟩) 1 1)).alloc (S3.eO rr.1.ex (.slice A kk c)) = w9 at *
  have hS : StrL (w9.alloc (.cells #[.string ⟨#[59]⟩] 9)) (w9.alloc (.cells #[.string ⟨#[59]⟩] 9)).heap.size (.slice (some ⟨w9.heap.size, 0, none⟩) 1 1) [[59]] := strL_new w9 [[59]] 9 rfl
  have D := addM (HM9.out.mki.al (.cells #[.string ⟨#[59]⟩] 9)) hS (by simp) (by first | omega | (simp; omega) | (simp at hlen ⊢; omega))
  rw [show List.map wtk [[59]] = [tSemi] by decide +kernel] at D
  rw [hz9] at D
  have D := Lib.hid D
  have HX := Lib.hid (HM9.out.al (.cells #[.string ⟨#[59]⟩] 9))
  have hpx := HM9.out.p_lt
  refine D.out.mono ?_
  rintro E w10 ⟨rfl, hI, hF⟩
  have HM10 := Lib.hid (HX.out.step hI hF)
  have HE := Lib.hid (er_frm' HE.out ((FrM.al _ _ hpx).trans hF))
  clear hS D HX hpx hI hF HM9 hz9
  obtain ⟨g0, g1, g2, g3, g4, g5, g6, g7⟩ := HM10.out.facts
  have hqm := HM10.out.pt.2.1
  obtain ⟨z0, z1, z2, z3, z4, z5, z6, z7, r0, r1, r2, r3, r4, r5, r6, r7, y0, y1, y2, y3, y4, y5, y6, y7⟩ := HM10.out.r8.facts
  have hq1 := HM10.out.r8.lt
  have HD := Lib.hid ((HM10.out.cast (out' := out ++ ((3, wVar) :: (1, (nmW (hdB r))) :: (3, sg) :: tEq :: (rr.1.tk ++ [tSemi]))) (by first | rfl | simp only [List.append_assoc, List.cons_append, List.nil_append])).done (s := sVar (nmW (hdB r)) (j : Int) [rr.1.ex]) ⟨⟨okI_n (k := 1) ⟨by decide, by decide⟩, okI_n (k := 0) ⟨by decide, by decide⟩, okI_n (k := (j : Int)) ⟨by omega, by omega⟩, nmW_le _, by simp⟩, HE.out, S3.SR.nil none 0, S3.SR.nil none 0⟩ (.int .i64 1) (.int .i64 0) (.string (B (nmW (hdB r)))) (.int .i64 (j : Int)) (.string ⟨#[]⟩) (.slice (some ⟨w8.heap.size, 0, none⟩) 1 1) (.slice none 0 0) (.slice none 0 0))
  clear HM10
  go_wp2_with fail
  exact bodyPost_ret (v := S3.sV (sVar (nmW (hdB r)) (j : Int) [rr.1.ex]) (.slice (some ⟨w8.heap.size, 0, none⟩) 1 1) (.slice none 0 0) (.slice none 0 0)) (by simp [results, Tryz.results12, go_sem, r0, r1, r2, r3, r4, r5, r6, r7]) rfl HD.out
set_option maxRecDepth 100000 in
set_option maxHeartbeats 8000000 in
theorem stM_var00 {W : World} {p M lf : Nat} {all cs : List Nat} {out : TL} (h : MkI W p M all cs ((lf : Int) + 1) out) (hlf : lf ≤ 1000) (deep : Int) (hdz : ¬ deep ≤ 0) (hk : hdB cs % 10 = 0) (hm : ¬ 128 ≤ hdB cs) (hlen : out.length + ([(3, wVar), (1, nmW (hdB (tlB cs))), (3, wordT (1 + ((hdB cs / 10 % 3 : Nat) : Int))), tSemi]).length ≤ 1000000) :
    Calls Tryz.prog 12 #[mpt p, .int .i64 deep] W (StP W p M all out ⟨sVar (nmW (hdB (tlB cs))) (1 + ((hdB cs / 10 % 3 : Nat) : Int)) [], [(3, wVar), (1, nmW (hdB (tlB cs))), (3, wordT (1 + ((hdB cs / 10 % 3 : Nat) : Int))), tSemi], lf, tlB (tlB cs)⟩) := by
  have hp := h.p_lt
  have hby := h.byt.tl
  have h256 := h.byt.hd
  have H0 := Lib.hid h
  have C := Lib.hid (byteM (h.al sZ))
  have hwl : IntKind.i64.wrap (lf : Int) = (lf : Int) := IntWalk.i64_in _ (by omega)
  have qk : (hdB cs : Int) % 10 = 0 := by omega
  have qm : ¬ (128 : Int) ≤ (hdB cs : Int) := by omega
  obtain ⟨j, hj⟩ : ∃ j, j = 1 + hdB cs / 10 % 3 := ⟨_, rfl⟩
  have hj1 : 1 ≤ j := by omega
  have hj2 : j ≤ 3 := by omega
  have hjr : 1 + (hdB cs : Int) / 10 % 3 = (j : Int) := by omega
  rw [show (1 + ((hdB cs / 10 % 3 : Nat) : Int)) = (j : Int) by omega] at hlen ⊢
  have hwj : IntKind.i64.wrap (j : Int) = (j : Int) := IntWalk.i64_in _ (by omega)
  obtain ⟨hsw, hs0, hsl⟩ := wt_wtk hj1 hj2
  have hrow := row4_at j hj1 hj2
  have hjt : ((j : Int)).toNat = j := by omega
  have hjl : (j : Int) < 4 := by omega
  have hj0 : (0 : Int) ≤ (j : Int) := by omega
  clear hj
  generalize hsg : wordT (j : Int) = sg at *
  clear h
  generalize hb : hdB cs = b at *
  generalize hr : tlB cs = r at *
  go_enter Tryz.func12, Tryz.ntmps12
  try simp only [List.append_eq, List.cons_append, List.nil_append]
  go_wp2_with fail
  refine C.out.mono ?_
  rintro E w1 ⟨rfl, hI, hF⟩
  have HM2 := Lib.hid (MidS.start (lf := (lf : Int)) H0.out hI hF 1)
  have hz2 : ((w1.setCell ⟨p, 2, none⟩ (.int .i64 (lf : Int))).alloc (sK 1)).heap.size = w1.heap.size + 1 := by rw [S3.sz1]; simp [World.setCell]
  have hp1 := hI.p_lt
  have hq2 : w1.heap.size < ((w1.setCell ⟨p, 2, none⟩ (.int .i64 (lf : Int))).alloc (sK 1)).heap.size := by rw [hz2]; omega
  obtain ⟨j0, j1, j2, j3⟩ : w1.cell? ⟨p, 0, none⟩ = w1.cell? ⟨p, 0, none⟩ ∧ True ∧ w1.cell? ⟨p, 2, none⟩ = some (.int .i64 ((lf : Int) + 1)) ∧ w1.frozen? ⟨p, 2, none⟩ = false := by
    obtain ⟨⟨_, _, _, _, _, _, h4, _⟩, _⟩ := hI
    exact ⟨rfl, trivial, (mk_row h4).2.2.1, mk_froz h4⟩
  clear j0 j1 hI hF C H0
  obtain ⟨g0, g1, g2, g3, g4, g5, g6, g7⟩ := HM2.out.facts
  go_wp2_with fail
  generalize w1.heap.size = q at *
  generalize (w1.setCell ⟨p, 2, none⟩ (.int .i64 (lf : Int))).alloc (sK 1) = w2 at *
  have hS : StrL (w2.alloc (.cells #[.string ⟨#[118, 97, 114]⟩] 9)) (w2.alloc (.cells #[.string ⟨#[118, 97, 114]⟩] 9)).heap.size (.slice (some ⟨w2.heap.size, 0, none⟩) 1 1) [[118, 97, 114]] := strL_new w2 [[118, 97, 114]] 9 rfl
  have D := addM (HM2.out.mki.al (.cells #[.string ⟨#[118, 97, 114]⟩] 9)) hS (by simp) (by first | omega | (simp; omega) | (simp at hlen ⊢; omega))
  rw [show List.map wtk [[118, 97, 114]] = [(3, wVar)] by decide +kernel] at D
  rw [hz2] at D
  have D := Lib.hid D
  have HX := Lib.hid (HM2.out.al (.cells #[.string ⟨#[118, 97, 114]⟩] 9))
  have hpx := HM2.out.p_lt
  refine D.out.mono ?_
  rintro E w3 ⟨rfl, hI, hF⟩
  have HM3 := Lib.hid (HX.out.step hI hF)
  clear hS D HX hpx hI hF HM2 hz2
  have N := Lib.hid (nameM HM3.out.mki (by first | omega | (simp; omega) | (simp at hlen ⊢; omega)))
  obtain ⟨g0, g1, g2, g3, g4, g5, g6, g7⟩ := HM3.out.facts
  have hqn := HM3.out.pt.2.1
  go_wp2_with fail
  refine N.out.mono ?_
  rintro E w4 ⟨rfl, hI, hF⟩
  have hM4 := HM3.out.step hI hF
  have z2 := hM4.froz (i := 2)
  have z3 := (hM4.set2 (.string (B (nmW (hdB r))))).froz (i := 3)
  obtain ⟨g0, g1, g2, g3, g4, g5, g6, g7⟩ := hM4.facts
  have hqm := hM4.pt.2.1
  have hm3 := (hM4.set2 (.string (B (nmW (hdB r))))).set3 (.int .i64 (j : Int))
  have HM5 := Lib.hid hm3
  have l3 := (hm3.al (.cells #[.string ⟨#[]⟩, .string ⟨#[105, 110, 116]⟩, .string ⟨#[98, 111, 111, 108]⟩, .string ⟨#[97, 114, 114, 97, 121]⟩] 9)).facts.2.2.2.1
  have hz5 : ((w4.setCell ⟨q, 2, none⟩ (.string (B (nmW (hdB r))))).setCell ⟨q, 3, none⟩ (.int .i64 (j : Int))).heap.size = w4.heap.size := by simp [World.setCell]
  have hc4 := S3.newCell ((w4.setCell ⟨q, 2, none⟩ (.string (B (nmW (hdB r))))).setCell ⟨q, 3, none⟩ (.int .i64 (j : Int))) #[.string ⟨#[]⟩, .string ⟨#[105, 110, 116]⟩, .string ⟨#[98, 111, 111, 108]⟩, .string ⟨#[97, 114, 114, 97, 121]⟩] 9 j _ hrow
  rw [hz5] at hc4
  have hS := strL_one (((w4.setCell ⟨q, 2, none⟩ (.string (B (nmW (hdB r))))).setCell ⟨q, 3, none⟩ (.int .i64 (j : Int))).alloc (.cells #[.string ⟨#[]⟩, .string ⟨#[105, 110, 116]⟩, .string ⟨#[98, 111, 111, 108]⟩, .string ⟨#[97, 114, 114, 97, 121]⟩] 9)) (s := sg) hs0 (by omega)
  rw [S3.sz1 ((w4.setCell ⟨q, 2, none⟩ (.string (B (nmW (hdB r))))).setCell ⟨q, 3, none⟩ (.int .i64 (j : Int))), hz5] at hS
  have HX := Lib.hid ((hm3.al (.cells #[.string ⟨#[]⟩, .string ⟨#[105, 110, 116]⟩, .string ⟨#[98, 111, 111, 108]⟩, .string ⟨#[97, 114, 114, 97, 121]⟩] 9)).al (.cells #[.string (B sg)] 9))
  have D := addM HX.out.mki hS (by simp) (by first | omega | (simp; omega) | (simp at hlen ⊢; omega))
  rw [show List.map wtk [sg] = [(3, sg)] by rw [List.map, List.map, hsw]] at D
  have D := Lib.hid D
  clear N hI hF HM3 hM4 hm3 hS
  go_wp2_with fail
  refine D.out.mono ?_
  rintro E w6 ⟨rfl, hI, hF⟩
  have HM6 := Lib.hid (HX.out.step hI hF)
  clear hI hF D HX HM5 hc4 l3 hz5 g0 g1 g2 g3 g4 g5 g6 g7 z2 z3
  obtain ⟨g0, g1, g2, g3, g4, g5, g6, g7⟩ := HM6.out.facts
  have hqn := HM6.out.pt.2.1
  go_wp2_with fail
  have hS : StrL (w6.alloc (.cells #[.string ⟨#[59]⟩] 9)) (w6.alloc (.cells #[.string ⟨#[59]⟩] 9)).heap.size (.slice (some ⟨w6.heap.size, 0, none⟩) 1 1) [[59]] := strL_new w6 [[59]] 9 rfl
  have D := addM (HM6.out.mki.al (.cells #[.string ⟨#[59]⟩] 9)) hS (by simp) (by first | omega | (simp; omega) | (simp at hlen ⊢; omega))
  rw [show List.map wtk [[59]] = [tSemi] by decide +kernel] at D
  have D := Lib.hid D
  have HX := Lib.hid (HM6.out.al (.cells #[.string ⟨#[59]⟩] 9))
  have hpx := HM6.out.p_lt
  refine D.out.mono ?_
  rintro E w7 ⟨rfl, hI, hF⟩
  have HM7 := Lib.hid (HX.out.step hI hF)
  clear hS D HX hpx hI hF HM6
  obtain ⟨g0, g1, g2, g3, g4, g5, g6, g7⟩ := HM7.out.facts
  have hqm := HM7.out.pt.2.1
  obtain ⟨z0, z1, z2, z3, z4, z5, z6, z7, r0, r1, r2, r3, r4, r5, r6, r7, y0, y1, y2, y3, y4, y5, y6, y7⟩ := HM7.out.r8.facts
  have hq1 := HM7.out.r8.lt
  have HD := Lib.hid ((HM7.out.cast (out' := out ++ ([(3, wVar), (1, (nmW (hdB r))), (3, sg), tSemi])) (by first | rfl | simp only [List.append_assoc, List.cons_append, List.nil_append])).done (s := sVar (nmW (hdB r)) (j : Int) []) ⟨⟨okI_n (k := 1) ⟨by decide, by decide⟩, okI_n (k := 0) ⟨by decide, by decide⟩, okI_n (k := (j : Int)) ⟨by omega, by omega⟩, nmW_le _, by simp⟩, S3.ER.nil none 0, S3.SR.nil none 0, S3.SR.nil none 0⟩ (.int .i64 1) (.int .i64 0) (.string (B (nmW (hdB r)))) (.int .i64 (j : Int)) (.string ⟨#[]⟩) (.slice none 0 0) (.slice none 0 0) (.slice none 0 0))
  clear HM7
  go_wp2_with fail
  exact bodyPost_ret (v := S3.sV (sVar (nmW (hdB r)) (j : Int) []) (.slice none 0 0) (.slice none 0 0) (.slice none 0 0)) (by simp [results, Tryz.results12, go_sem, r0, r1, r2, r3, r4, r5, r6, r7]) rfl HD.out
set_option maxRecDepth 100000 in
set_option maxHeartbeats 8000000 in
theorem stM_var01 {W : World} {p M lf : Nat} {all cs : List Nat} {out : TL} (h : MkI W p M all cs ((lf : Int) + 1) out) (hlf : lf ≤ 1000) (deep : Int) (hdz : ¬ deep ≤ 0) (hk : hdB cs % 10 = 0) (hm : 128 ≤ hdB cs) (hlen : out.length + ((3, wVar) :: (1, nmW (hdB (tlB cs))) :: (3, wordT (1 + ((hdB cs / 10 % 3 : Nat) : Int))) :: tEq :: ((mkT 2 (tlB (tlB cs))).1.tk ++ [tSemi])).length ≤ 1000000) :
    Calls Tryz.prog 12 #[mpt p, .int .i64 deep] W (StP W p M all out ⟨sVar (nmW (hdB (tlB cs))) (1 + ((hdB cs / 10 % 3 : Nat) : Int)) [(mkT 2 (tlB (tlB cs))).1.ex], (3, wVar) :: (1, nmW (hdB (tlB cs))) :: (3, wordT (1 + ((hdB cs / 10 % 3 : Nat) : Int))) :: tEq :: ((mkT 2 (tlB (tlB cs))).1.tk ++ [tSemi]), lf, (mkT 2 (tlB (tlB cs))).2⟩) := by
  have hp := h.p_lt
  have hby := h.byt.tl
  have h256 := h.byt.hd
  have H0 := Lib.hid h
  have C := Lib.hid (byteM (h.al sZ))
  have hwl : IntKind.i64.wrap (lf : Int) = (lf : Int) := IntWalk.i64_in _ (by omega)
  have qk : (hdB cs : Int) % 10 = 0 := by omega
  have qm : (128 : Int) ≤ (hdB cs : Int) := by omega
  obtain ⟨j, hj⟩ : ∃ j, j = 1 + hdB cs / 10 % 3 := ⟨_, rfl⟩
  have hj1 : 1 ≤ j := by omega
  have hj2 : j ≤ 3 := by omega
  have hjr : 1 + (hdB cs : Int) / 10 % 3 = (j : Int) := by omega
  rw [show (1 + ((hdB cs / 10 % 3 : Nat) : Int)) = (j : Int) by omega] at hlen ⊢
  have hwj : IntKind.i64.wrap (j : Int) = (j : Int) := IntWalk.i64_in _ (by omega)
  obtain ⟨hsw, hs0, hsl⟩ := wt_wtk hj1 hj2
  have hrow := row4_at j hj1 hj2
  have hjt : ((j : Int)).toNat = j := by omega
  have hjl : (j : Int) < 4 := by omega
  have hj0 : (0 : Int) ≤ (j : Int) := by omega
  clear hj
  generalize hsg : wordT (j : Int) = sg at *
  clear h
  generalize hb : hdB cs = b at *
  generalize hr : tlB cs = r at *
  go_enter Tryz.func12, Tryz.ntmps12
  try simp only [List.append_eq, List.cons_append, List.nil_append]
  go_wp2_with fail
  refine C.out.mono ?_
  rintro E w1 ⟨rfl, hI, hF⟩
  have HM2 := Lib.hid (MidS.start (lf := (lf : Int)) H0.out hI hF 1)
  have hz2 : ((w1.setCell ⟨p, 2, none⟩ (.int .i64 (lf : Int))).alloc (sK 1)).heap.size = w1.heap.size + 1 := by rw [S3.sz1]; simp [World.setCell]
  have hp1 := hI.p_lt
  have hq2 : w1.heap.size < ((w1.setCell ⟨p, 2, none⟩ (.int .i64 (lf : Int))).alloc (sK 1)).heap.size := by rw [hz2]; omega
  obtain ⟨j0, j1, j2, j3⟩ : w1.cell? ⟨p, 0, none⟩ = w1.cell? ⟨p, 0, none⟩ ∧ True ∧ w1.cell? ⟨p, 2, none⟩ = some (.int .i64 ((lf : Int) + 1)) ∧ w1.frozen? ⟨p, 2, none⟩ = false := by
    obtain ⟨⟨_, _, _, _, _, _, h4, _⟩, _⟩ := hI
    exact ⟨rfl, trivial, (mk_row h4).2.2.1, mk_froz h4⟩
  clear j0 j1 hI hF C H0
  obtain ⟨g0, g1, g2, g3, g4, g5, g6, g7⟩ := HM2.out.facts
  go_wp2_with fail
  generalize w1.heap.size = q at *
  generalize (w1.setCell ⟨p, 2, none⟩ (.int .i64 (lf : Int))).alloc (sK 1) = w2 at *
  have hS : StrL (w2.alloc (.cells #[.string ⟨#[118, 97, 114]⟩] 9)) (w2.alloc (.cells #[.string ⟨#[118, 97, 114]⟩] 9)).heap.size (.slice (some ⟨w2.heap.size, 0, none⟩) 1 1) [[118, 97, 114]] := strL_new w2 [[118, 97, 114]] 9 rfl
  have D := addM (HM2.out.mki.al (.cells #[.string ⟨#[118, 97, 114]⟩] 9)) hS (by simp) (by first | omega | (simp; omega) | (simp at hlen ⊢; omega))
  rw [show List.map wtk [[118, 97, 114]] = [(3, wVar)] by decide +kernel] at D
  rw [hz2] at D
  have D := Lib.hid D
  have HX := Lib.hid (HM2.out.al (.cells #[.string ⟨#[118, 97, 114]⟩] 9))
  have hpx := HM2.out.p_lt
  refine D.out.mono ?_
  rintro E w3 ⟨rfl, hI, hF⟩
  have HM3 := Lib.hid (HX.out.step hI hF)
  clear hS D HX hpx hI hF HM2 hz2
  have N := Lib.hid (nameM HM3.out.mki (by first | omega | (simp; omega) | (simp at hlen ⊢; omega)))
  obtain ⟨g0, g1, g2, g3, g4, g5, g6, g7⟩ := HM3.out.facts
  have hqn := HM3.out.pt.2.1
  go_wp2_with fail
  refine N.out.mono ?_
  rintro E w4 ⟨rfl, hI, hF⟩
  have hM4 := HM3.out.step hI hF
  have z2 := hM4.froz (i := 2)
  have z3 := (hM4.set2 (.string (B (nmW (hdB r))))).froz (i := 3)
  obtain ⟨g0, g1, g2, g3, g4, g5, g6, g7⟩ := hM4.facts
  have hqm := hM4.pt.2.1
  have hm3 := (hM4.set2 (.string (B (nmW (hdB r))))).set3 (.int .i64 (j : Int))
  have HM5 := Lib.hid hm3
  have l3 := (hm3.al (.cells #[.string ⟨#[]⟩, .string ⟨#[105, 110, 116]⟩, .string ⟨#[98, 111, 111, 108]⟩, .string ⟨#[97, 114, 114, 97, 121]⟩] 9)).facts.2.2.2.1
  have hz5 : ((w4.setCell ⟨q, 2, none⟩ (.string (B (nmW (hdB r))))).setCell ⟨q, 3, none⟩ (.int .i64 (j : Int))).heap.size = w4.heap.size := by simp [World.setCell]
  have hc4 := S3.newCell ((w4.setCell ⟨q, 2, none⟩ (.string (B (nmW (hdB r))))).setCell ⟨q, 3, none⟩ (.int .i64 (j : Int))) #[.string ⟨#[]⟩, .string ⟨#[105, 110, 116]⟩, .string ⟨#[98, 111, 111, 108]⟩, .string ⟨#[97, 114, 114, 97, 121]⟩] 9 j _ hrow
  rw [hz5] at hc4
  have hS := strL_one (((w4.setCell ⟨q, 2, none⟩ (.string (B (nmW (hdB r))))).setCell ⟨q, 3, none⟩ (.int .i64 (j : Int))).alloc (.cells #[.string ⟨#[]⟩, .string ⟨#[105, 110, 116]⟩, .string ⟨#[98, 111, 111, 108]⟩, .string ⟨#[97, 114, 114, 97, 121]⟩] 9)) (s := sg) hs0 (by omega)
  rw [S3.sz1 ((w4.setCell ⟨q, 2, none⟩ (.string (B (nmW (hdB r))))).setCell ⟨q, 3, none⟩ (.int .i64 (j : Int))), hz5] at hS
  have HX := Lib.hid ((hm3.al (.cells #[.string ⟨#[]⟩, .string ⟨#[105, 110, 116]⟩, .string ⟨#[98, 111, 111, 108]⟩, .string ⟨#[97, 114, 114, 97, 121]⟩] 9)).al (.cells #[.string (B sg)] 9))
  have D := addM HX.out.mki hS (by simp) (by first | omega | (simp; omega) | (simp at hlen ⊢; omega))
  rw [show List.map wtk [sg] = [(3, sg)] by rw [List.map, List.map, hsw]] at D
  have D := Lib.hid D
  clear N hI hF HM3 hM4 hm3 hS
  go_wp2_with fail
  refine D.out.mono ?_
  rintro E w6 ⟨rfl, hI, hF⟩
  have HM6 := Lib.hid (HX.out.step hI hF)
  clear hI hF D HX HM5 hc4 l3 hz5 g0 g1 g2 g3 g4 g5 g6 g7 z2 z3
  obtain ⟨g0, g1, g2, g3, g4, g5, g6, g7⟩ := HM6.out.facts
  have hqn := HM6.out.pt.2.1
  go_wp2_with fail
  have hS : StrL (w6.alloc (.cells #[.string ⟨#[61]⟩] 9)) (w6.alloc (.cells #[.string ⟨#[61]⟩] 9)).heap.size (.slice (some ⟨w6.heap.size, 0, none⟩) 1 1) [[61]] := strL_new w6 [[61]] 9 rfl
  have D := addM (HM6.out.mki.al (.cells #[.string ⟨#[61]⟩] 9)) hS (by simp) (by first | omega | (simp; omega) | (simp at hlen ⊢; omega))
  rw [show List.map wtk [[61]] = [tEq] by decide +kernel] at D
  have D := Lib.hid D
  have HX := Lib.hid (HM6.out.al (.cells #[.string ⟨#[61]⟩] 9))
  have hpx := HM6.out.p_lt
  refine D.out.mono ?_
  rintro E w7 ⟨rfl, hI, hF⟩
  have HM7 := Lib.hid (HX.out.step hI hF)
  clear hS D HX hpx hI hF HM6
  have X := exprM_all 2 (by omega) false w7 p M all _ _ _ HM7.out.mki (by first | (rw [tokT_false]; simp at hlen ⊢; omega) | (rw [tokT_false]; simp; omega))
  rw [show ((2 : Nat) : Int) + 1 = 3 from rfl, tokT_false] at X
  have hok := tr_okE6 (mkT_ok 2 (tlB r) (by first | exact hby | exact hby.tl | exact hby.tl.tl)).1
  generalize hrr : mkT 2 (tlB r) = rr at *
  have X := Lib.hid X
  have hqx : q < w7.heap.size := HM7.out.pt.2.1
  obtain ⟨g0, g1, g2, g3, g4, g5, g6, g7⟩ := HM7.out.facts
  have hqn := HM7.out.pt.2.1
  go_wp2_with fail
  refine X.out.mono ?_
  rintro E w8 ⟨A, kk, c, rfl, hEr, hI, hF⟩
  have hM8 := HM7.out.step hI hF
  have z5 := hM8.froz (i := 5)
  obtain ⟨g0, g1, g2, g3, g4, g5, g6, g7⟩ := hM8.facts
  have hqm := hM8.pt.2.1
  obtain ⟨i1, i2, hz9⟩ := hM8.one hEr hqx hok
  have HM9 := Lib.hid i1
  have HE := Lib.hid i2
  clear hI hF hEr hok X i1 i2 HM7 hM8
  go_wp2_with fail
  generalize (w8.setCell ⟨q, 5, none⟩ (.slice (some ⟨w8.heap.size, 0, none⟩) 1 1)).alloc (S3.eO rr.1.ex (.slice A kk c)) = w9 at *
  have hS : StrL (w9.alloc (.cells #[.string ⟨#[59]⟩] 9)) (w9.alloc (.cells #[.string ⟨#[59]⟩] 9)).heap.size (.slice (some ⟨w9.heap.size, 0, none⟩) 1 1) [[59]] := strL_new w9 [[59]] 9 rfl
  have D := addM (HM9.out.mki.al (.cells #[.string ⟨#[59]⟩] 9)) hS (by simp) (by first | omega | (simp; omega) | (simp at hlen ⊢; omega))
  rw [show List.map wtk [[59]] = [tSemi] by decide +kernel] at D
  rw [hz9] at D
  have D := Lib.hid D
  have HX := Lib.hid (HM9.out.al (.cells #[.string ⟨#[59]⟩] 9))
  have hpx := HM9.out.p_lt
  refine D.out.mono ?_
  rintro E w10 ⟨rfl, hI, hF⟩
  have HM10 := Lib.hid (HX.out.step hI hF)
  have HE := Lib.hid (er_frm' HE.out ((FrM.al _ _ hpx).trans hF))
  clear hS D HX hpx hI hF HM9 hz9
  obtain ⟨g0, g1, g2, g3, g4, g5, g6, g7⟩ := HM10.out.facts
  have hqm := HM10.out.pt.2.1
  obtain ⟨z0, z1, z2, z3, z4, z5, z6, z7, r0, r1, r2, r3, r4, r5, r6, r7, y0, y1, y2, y3, y4, y5, y6, y7⟩ := HM10.out.r8.facts
  have hq1 := HM10.out.r8.lt
  have HD := Lib.hid ((HM10.out.cast (out' := out ++ ((3, wVar) :: (1, (nmW (hdB r))) :: (3, sg) :: tEq :: (rr.1.tk ++ [tSemi]))) (by first | rfl | simp only [List.append_assoc, List.cons_append, List.nil_append])).done (s := sVar (nmW (hdB r)) (j : Int) [rr.1.ex]) ⟨⟨okI_n (k := 1) ⟨by decide, by decide⟩, okI_n (k := 0) ⟨by decide, by decide⟩, okI_n (k := (j : Int)) ⟨by omega, by omega⟩, nmW_le _, by simp⟩, HE.out, S3.SR.nil none 0, S3.SR.nil none 0⟩ (.int .i64 1) (.int .i64 0) (.string (B (nmW (hdB r)))) (.int .i64 (j : Int)) (.string ⟨#[]⟩) (.slice (some ⟨w8.heap.size, 0, none⟩) 1 1) (.slice none 0 0) (.slice none 0 0))
  clear HM10
  go_wp2_with fail
  exact bodyPost_ret (v := S3.sV (sVar (nmW (hdB r)) (j : Int) [rr.1.ex]) (.slice (some ⟨w8.heap.size, 0, none⟩) 1 1) (.slice none 0 0) (.slice none 0 0)) (by simp [results, Tryz.results12, go_sem, r0, r1, r2, r3, r4, r5, r6, r7]) rfl HD.out
end Go.Proofs.YtipepljmfgjbpaaGreatDoor.E6

namespace Go.Proofs.YtipepljmfgjbpaaGreatDoor.E6
open Go Go.RowKit Go.Proofs.YtipepljmfgjbpaaGreatDoor Go.Proofs.YtipepljmfgjbpaaGreatDoor.E5

set_option maxRecDepth 100000 in
set_option maxHeartbeats 8000000 in
theorem stM_while {W : World} {p M lf : Nat} {all cs : List Nat} {out : TL} (h : MkI W p M all cs ((lf : Int) + 1) out) (hlf : lf ≤ 1000) (n : Nat) (hSt : StC n) (hn : n ≤ 100) (hk : hdB cs % 10 = 9)  (hlen : out.length + ((3, wWhile) :: ((mkT 2 (tlB cs)).1.tk ++ blkT (mkBlk (mkS n) lf (mkT 2 (tlB cs)).2).ps)).length ≤ 1000000) :
    Calls Tryz.prog 12 #[mpt p, .int .i64 ((n : Int) + 1)] W (StP W p M all out ⟨sWhile (mkT 2 (tlB cs)).1.ex (PL.st (mkBlk (mkS n) lf (mkT 2 (tlB cs)).2).ps), (3, wWhile) :: ((mkT 2 (tlB cs)).1.tk ++ blkT (mkBlk (mkS n) lf (mkT 2 (tlB cs)).2).ps), (mkBlk (mkS n) lf (mkT 2 (tlB cs)).2).left, (mkBlk (mkS n) lf (mkT 2 (tlB cs)).2).cs⟩) := by
  have hp := h.p_lt
  have hby := h.byt.tl
  have h256 := h.byt.hd
  have H0 := Lib.hid h
  have C := Lib.hid (byteM (h.al sZ))
  have hwl : IntKind.i64.wrap (lf : Int) = (lf : Int) := IntWalk.i64_in _ (by omega)
  have qk : (hdB cs : Int) % 10 = 9 := by omega
  have hdz : ¬ ((n : Int) + 1 ≤ 0) := by omega
  have hwn : IntKind.i64.wrap (n : Int) = (n : Int) := IntWalk.i64_in _ (by omega)
  have HSt := Lib.hid hSt
  clear hSt
  clear h
  generalize hb : hdB cs = b at *
  generalize hr : tlB cs = r at *
  go_enter Tryz.func12, Tryz.ntmps12
  try simp only [List.append_eq, List.cons_append, List.nil_append]
  go_wp2_with fail
  refine C.out.mono ?_
  rintro E w1 ⟨rfl, hI, hF⟩
  have HM2 := Lib.hid (MidS.start (lf := (lf : Int)) H0.out hI hF 10)
  have hz2 : ((w1.setCell ⟨p, 2, none⟩ (.int .i64 (lf : Int))).alloc (sK 10)).heap.size = w1.heap.size + 1 := by rw [S3.sz1]; simp [World.setCell]
  have hp1 := hI.p_lt
  have hq2 : w1.heap.size < ((w1.setCell ⟨p, 2, none⟩ (.int .i64 (lf : Int))).alloc (sK 10)).heap.size := by rw [hz2]; omega
  obtain ⟨j0, j1, j2, j3⟩ : w1.cell? ⟨p, 0, none⟩ = w1.cell? ⟨p, 0, none⟩ ∧ True ∧ w1.cell? ⟨p, 2, none⟩ = some (.int .i64 ((lf : Int) + 1)) ∧ w1.frozen? ⟨p, 2, none⟩ = false := by
    obtain ⟨⟨_, _, _, _, _, _, h4, _⟩, _⟩ := hI
    exact ⟨rfl, trivial, (mk_row h4).2.2.1, mk_froz h4⟩
  clear j0 j1 hI hF C H0
  obtain ⟨g0, g1, g2, g3, g4, g5, g6, g7⟩ := HM2.out.facts
  go_wp2_with fail
  generalize w1.heap.size = q at *
  generalize (w1.setCell ⟨p, 2, none⟩ (.int .i64 (lf : Int))).alloc (sK 10) = w2 at *
  have HMa := Lib.hid (HM2.out.al (.cells #[.string ⟨#[105, 102]⟩, .string ⟨#[119, 104, 105, 108, 101]⟩] 9))
  have hS : StrL ((w2.alloc (.cells #[.string ⟨#[105, 102]⟩, .string ⟨#[119, 104, 105, 108, 101]⟩] 9)).alloc (.cells #[.string ⟨#[119, 104, 105, 108, 101]⟩] 9)) ((w2.alloc (.cells #[.string ⟨#[105, 102]⟩, .string ⟨#[119, 104, 105, 108, 101]⟩] 9)).alloc (.cells #[.string ⟨#[119, 104, 105, 108, 101]⟩] 9)).heap.size (.slice (some ⟨(w2.alloc (.cells #[.string ⟨#[105, 102]⟩, .string ⟨#[119, 104, 105, 108, 101]⟩] 9)).heap.size, 0, none⟩) 1 1) [[119, 104, 105, 108, 101]] := strL_new (w2.alloc (.cells #[.string ⟨#[105, 102]⟩, .string ⟨#[119, 104, 105, 108, 101]⟩] 9)) [[119, 104, 105, 108, 101]] 9 rfl
  have D := addM (HMa.out.mki.al (.cells #[.string ⟨#[119, 104, 105, 108, 101]⟩] 9)) hS (by simp) (by first | omega | (simp; omega) | (simp at hlen ⊢; omega))
  rw [show List.map wtk [[119, 104, 105, 108, 101]] = [(3, wWhile)] by decide +kernel] at D
  rw [S3.sz1 w2, hz2] at D
  have D := Lib.hid D
  have HX := Lib.hid (HMa.out.al (.cells #[.string ⟨#[119, 104, 105, 108, 101]⟩] 9))
  refine D.out.mono ?_
  rintro E w3 ⟨rfl, hI, hF⟩
  have HM3 := Lib.hid (HX.out.step hI hF)
  clear hS D HX hI hF HM2 HMa hz2
  have X := exprM_all 2 (by omega) false w3 p M all _ _ _ HM3.out.mki (by rw [tokT_false]; simp at hlen ⊢; omega)
  rw [show ((2 : Nat) : Int) + 1 = 3 from rfl, tokT_false] at X
  have hok := tr_okE6 (mkT_ok 2 r (by first | exact hby | exact hby.tl | exact hby.tl.tl)).1
  generalize hrr : mkT 2 r = rr at *
  have X := Lib.hid X
  have hqx : q < w3.heap.size := HM3.out.pt.2.1
  obtain ⟨g0, g1, g2, g3, g4, g5, g6, g7⟩ := HM3.out.facts
  have hqn := HM3.out.pt.2.1
  go_wp2_with fail
  refine X.out.mono ?_
  rintro E w4 ⟨A, kk, c, rfl, hEr, hI, hF⟩
  have hM4 := HM3.out.step hI hF
  have z5 := hM4.froz (i := 5)
  obtain ⟨g0, g1, g2, g3, g4, g5, g6, g7⟩ := hM4.facts
  have hqm := hM4.pt.2.1
  obtain ⟨i1, i2, hz5⟩ := hM4.one hEr hqx hok
  have HM5 := Lib.hid i1
  have HE := Lib.hid i2
  clear hI hF hEr hok X i1 i2 HM3 hM4
  go_wp2_with fail
  generalize (w4.setCell ⟨q, 5, none⟩ (.slice (some ⟨w4.heap.size, 0, none⟩) 1 1)).alloc (S3.eO rr.1.ex (.slice A kk c)) = w5 at *
  have X := blockM HSt.out (left := lf) HM5.out.mki (hlf) (by simp [blkT] at hlen ⊢; omega)
  have hl6 : (mkBlk (mkS n) lf rr.2).left ≤ 1000 := Nat.le_trans (mkBl_left (mkS_left n) _ _ _) hlf
  generalize hb6 : mkBlk (mkS n) lf rr.2 = rb at *
  have X := Lib.hid X
  have hqx : q < w5.heap.size := HM5.out.pt.2.1
  refine X.out.mono ?_
  rintro E w6 ⟨Ab, c6, rfl, hEr, hI, hF⟩
  have hM6 := HM5.out.step hI hF
  have z6 := hM6.froz (i := 6)
  obtain ⟨g0, g1, g2, g3, g4, g5, g6, g7⟩ := hM6.facts
  have hqm := hM6.pt.2.1
  have HE := Lib.hid (hM6.er (i := 6) (u := .slice Ab rb.ps.length c6) (er_frm' HE.out hF))
  have HM7 := Lib.hid (hM6.set6 (.slice Ab rb.ps.length c6))
  have HSB := Lib.hid (hM6.sr (i := 6) (u := .slice Ab rb.ps.length c6) (hEr.keep (R' := PtM p (q + 1) w6) (fun _ h => h.mono (by omega)) fun _ _ _ => rfl))
  have hz7 : (w6.setCell ⟨q, 6, none⟩ (.slice Ab rb.ps.length c6)).heap.size = w6.heap.size := by simp [World.setCell]
  clear hI hF hEr X HM5 hM6
  obtain ⟨g0, g1, g2, g3, g4, g5, g6, g7⟩ := HM7.out.facts
  have hqm := HM7.out.pt.2.1
  obtain ⟨z0, z1, z2, z3, z4, z5, z6, z7, r0, r1, r2, r3, r4, r5, r6, r7, y0, y1, y2, y3, y4, y5, y6, y7⟩ := HM7.out.r8.facts
  have hq1 := HM7.out.r8.lt
  have HD := Lib.hid ((HM7.out.cast (out' := out ++ ((3, wWhile) :: (rr.1.tk ++ blkT rb.ps))) (by first | rfl | simp only [List.append_assoc, List.cons_append, List.nil_append])).done (s := sWhile rr.1.ex (PL.st rb.ps)) ⟨⟨okI_n (k := 10) ⟨by decide, by decide⟩, okI_n (k := 0) ⟨by decide, by decide⟩, okI_n (k := 0) ⟨by decide, by decide⟩, by simp, by simp⟩, HE.out, HSB.out, S3.SR.nil none 0⟩ (.int .i64 10) (.int .i64 0) (.string ⟨#[]⟩) (.int .i64 0) (.string ⟨#[]⟩) (.slice (some ⟨w4.heap.size, 0, none⟩) 1 1) (.slice Ab rb.ps.length c6) (.slice none 0 0))
  clear HM7
  go_wp2_with fail
  exact bodyPost_ret (v := S3.sV (sWhile rr.1.ex (PL.st rb.ps)) (.slice (some ⟨w4.heap.size, 0, none⟩) 1 1) (.slice Ab rb.ps.length c6) (.slice none 0 0)) (by simp [results, Tryz.results12, go_sem, r0, r1, r2, r3, r4, r5, r6, r7]) rfl HD.out
set_option maxRecDepth 100000 in
set_option maxHeartbeats 8000000 in
theorem stM_if0 {W : World} {p M lf : Nat} {all cs : List Nat} {out : TL} (h : MkI W p M all cs ((lf : Int) + 1) out) (hlf : lf ≤ 1000) (n : Nat) (hSt : StC n) (hn : n ≤ 100) (hk : hdB cs % 10 = 8) (hm : ¬ 128 ≤ hdB cs)  (hlen : out.length + ((3, wIf) :: ((mkT 2 (tlB cs)).1.tk ++ blkT (mkBlk (mkS n) lf (mkT 2 (tlB cs)).2).ps)).length ≤ 1000000) :
    Calls Tryz.prog 12 #[mpt p, .int .i64 ((n : Int) + 1)] W (StP W p M all out ⟨sIf (mkT 2 (tlB cs)).1.ex (PL.st (mkBlk (mkS n) lf (mkT 2 (tlB cs)).2).ps) [], (3, wIf) :: ((mkT 2 (tlB cs)).1.tk ++ blkT (mkBlk (mkS n) lf (mkT 2 (tlB cs)).2).ps), (mkBlk (mkS n) lf (mkT 2 (tlB cs)).2).left, (mkBlk (mkS n) lf (mkT 2 (tlB cs)).2).cs⟩) := by
  have hp := h.p_lt
  have hby := h.byt.tl
  have h256 := h.byt.hd
  have H0 := Lib.hid h
  have C := Lib.hid (byteM (h.al sZ))
  have hwl : IntKind.i64.wrap (lf : Int) = (lf : Int) := IntWalk.i64_in _ (by omega)
  have qk : (hdB cs : Int) % 10 = 8 := by omega
  have qm : ¬ (128 : Int) ≤ (hdB cs : Int) := by omega
  have hdz : ¬ ((n : Int) + 1 ≤ 0) := by omega
  have hwn : IntKind.i64.wrap (n : Int) = (n : Int) := IntWalk.i64_in _ (by omega)
  have HSt := Lib.hid hSt
  clear hSt
  clear h
  generalize hb : hdB cs = b at *
  generalize hr : tlB cs = r at *
  go_enter Tryz.func12, Tryz.ntmps12
  try simp only [List.append_eq, List.cons_append, List.nil_append]
  go_wp2_with fail
  refine C.out.mono ?_
  rintro E w1 ⟨rfl, hI, hF⟩
  have HM2 := Lib.hid (MidS.start (lf := (lf : Int)) H0.out hI hF 9)
  have hz2 : ((w1.setCell ⟨p, 2, none⟩ (.int .i64 (lf : Int))).alloc (sK 9)).heap.size = w1.heap.size + 1 := by rw [S3.sz1]; simp [World.setCell]
  have hp1 := hI.p_lt
  have hq2 : w1.heap.size < ((w1.setCell ⟨p, 2, none⟩ (.int .i64 (lf : Int))).alloc (sK 9)).heap.size := by rw [hz2]; omega
  obtain ⟨j0, j1, j2, j3⟩ : w1.cell? ⟨p, 0, none⟩ = w1.cell? ⟨p, 0, none⟩ ∧ True ∧ w1.cell? ⟨p, 2, none⟩ = some (.int .i64 ((lf : Int) + 1)) ∧ w1.frozen? ⟨p, 2, none⟩ = false := by
    obtain ⟨⟨_, _, _, _, _, _, h4, _⟩, _⟩ := hI
    exact ⟨rfl, trivial, (mk_row h4).2.2.1, mk_froz h4⟩
  clear j0 j1 hI hF C H0
  obtain ⟨g0, g1, g2, g3, g4, g5, g6, g7⟩ := HM2.out.facts
  go_wp2_with fail
  generalize w1.heap.size = q at *
  generalize (w1.setCell ⟨p, 2, none⟩ (.int .i64 (lf : Int))).alloc (sK 9) = w2 at *
  have HMa := Lib.hid (HM2.out.al (.cells #[.string ⟨#[105, 102]⟩, .string ⟨#[119, 104, 105, 108, 101]⟩] 9))
  have hS : StrL ((w2.alloc (.cells #[.string ⟨#[105, 102]⟩, .string ⟨#[119, 104, 105, 108, 101]⟩] 9)).alloc (.cells #[.string ⟨#[105, 102]⟩] 9)) ((w2.alloc (.cells #[.string ⟨#[105, 102]⟩, .string ⟨#[119, 104, 105, 108, 101]⟩] 9)).alloc (.cells #[.string ⟨#[105, 102]⟩] 9)).heap.size (.slice (some ⟨(w2.alloc (.cells #[.string ⟨#[105, 102]⟩, .string ⟨#[119, 104, 105, 108, 101]⟩] 9)).heap.size, 0, none⟩) 1 1) [[105, 102]] := strL_new (w2.alloc (.cells #[.string ⟨#[105, 102]⟩, .string ⟨#[119, 104, 105, 108, 101]⟩] 9)) [[105, 102]] 9 rfl
  have D := addM (HMa.out.mki.al (.cells #[.string ⟨#[105, 102]⟩] 9)) hS (by simp) (by first | omega | (simp; omega) | (simp at hlen ⊢; omega))
  rw [show List.map wtk [[105, 102]] = [(3, wIf)] by decide +kernel] at D
  rw [S3.sz1 w2, hz2] at D
  have D := Lib.hid D
  have HX := Lib.hid (HMa.out.al (.cells #[.string ⟨#[105, 102]⟩] 9))
  refine D.out.mono ?_
  rintro E w3 ⟨rfl, hI, hF⟩
  have HM3 := Lib.hid (HX.out.step hI hF)
  clear hS D HX hI hF HM2 HMa hz2
  have X := exprM_all 2 (by omega) false w3 p M all _ _ _ HM3.out.mki (by rw [tokT_false]; simp at hlen ⊢; omega)
  rw [show ((2 : Nat) : Int) + 1 = 3 from rfl, tokT_false] at X
  have hok := tr_okE6 (mkT_ok 2 r (by first | exact hby | exact hby.tl | exact hby.tl.tl)).1
  generalize hrr : mkT 2 r = rr at *
  have X := Lib.hid X
  have hqx : q < w3.heap.size := HM3.out.pt.2.1
  obtain ⟨g0, g1, g2, g3, g4, g5, g6, g7⟩ := HM3.out.facts
  have hqn := HM3.out.pt.2.1
  go_wp2_with fail
  refine X.out.mono ?_
  rintro E w4 ⟨A, kk, c, rfl, hEr, hI, hF⟩
  have hM4 := HM3.out.step hI hF
  have z5 := hM4.froz (i := 5)
  obtain ⟨g0, g1, g2, g3, g4, g5, g6, g7⟩ := hM4.facts
  have hqm := hM4.pt.2.1
  obtain ⟨i1, i2, hz5⟩ := hM4.one hEr hqx hok
  have HM5 := Lib.hid i1
  have HE := Lib.hid i2
  clear hI hF hEr hok X i1 i2 HM3 hM4
  go_wp2_with fail
  generalize (w4.setCell ⟨q, 5, none⟩ (.slice (some ⟨w4.heap.size, 0, none⟩) 1 1)).alloc (S3.eO rr.1.ex (.slice A kk c)) = w5 at *
  have X := blockM HSt.out (left := lf) HM5.out.mki (hlf) (by simp [blkT] at hlen ⊢; omega)
  have hl6 : (mkBlk (mkS n) lf rr.2).left ≤ 1000 := Nat.le_trans (mkBl_left (mkS_left n) _ _ _) hlf
  generalize hb6 : mkBlk (mkS n) lf rr.2 = rb at *
  have X := Lib.hid X
  have hqx : q < w5.heap.size := HM5.out.pt.2.1
  refine X.out.mono ?_
  rintro E w6 ⟨Ab, c6, rfl, hEr, hI, hF⟩
  have hM6 := HM5.out.step hI hF
  have z6 := hM6.froz (i := 6)
  obtain ⟨g0, g1, g2, g3, g4, g5, g6, g7⟩ := hM6.facts
  have hqm := hM6.pt.2.1
  have HE := Lib.hid (hM6.er (i := 6) (u := .slice Ab rb.ps.length c6) (er_frm' HE.out hF))
  have HM7 := Lib.hid (hM6.set6 (.slice Ab rb.ps.length c6))
  have HSB := Lib.hid (hM6.sr (i := 6) (u := .slice Ab rb.ps.length c6) (hEr.keep (R' := PtM p (q + 1) w6) (fun _ h => h.mono (by omega)) fun _ _ _ => rfl))
  have hz7 : (w6.setCell ⟨q, 6, none⟩ (.slice Ab rb.ps.length c6)).heap.size = w6.heap.size := by simp [World.setCell]
  clear hI hF hEr X HM5 hM6
  obtain ⟨g0, g1, g2, g3, g4, g5, g6, g7⟩ := HM7.out.facts
  have hqm := HM7.out.pt.2.1
  obtain ⟨z0, z1, z2, z3, z4, z5, z6, z7, r0, r1, r2, r3, r4, r5, r6, r7, y0, y1, y2, y3, y4, y5, y6, y7⟩ := HM7.out.r8.facts
  have hq1 := HM7.out.r8.lt
  have HD := Lib.hid ((HM7.out.cast (out' := out ++ ((3, wIf) :: (rr.1.tk ++ blkT rb.ps))) (by first | rfl | simp only [List.append_assoc, List.cons_append, List.nil_append])).done (s := sIf rr.1.ex (PL.st rb.ps) []) ⟨⟨okI_n (k := 9) ⟨by decide, by decide⟩, okI_n (k := 0) ⟨by decide, by decide⟩, okI_n (k := 0) ⟨by decide, by decide⟩, by simp, by simp⟩, HE.out, HSB.out, S3.SR.nil none 0⟩ (.int .i64 9) (.int .i64 0) (.string ⟨#[]⟩) (.int .i64 0) (.string ⟨#[]⟩) (.slice (some ⟨w4.heap.size, 0, none⟩) 1 1) (.slice Ab rb.ps.length c6) (.slice none 0 0))
  clear HM7
  go_wp2_with fail
  exact bodyPost_ret (v := S3.sV (sIf rr.1.ex (PL.st rb.ps) []) (.slice (some ⟨w4.heap.size, 0, none⟩) 1 1) (.slice Ab rb.ps.length c6) (.slice none 0 0)) (by simp [results, Tryz.results12, go_sem, r0, r1, r2, r3, r4, r5, r6, r7]) rfl HD.out
set_option maxRecDepth 100000 in
set_option maxHeartbeats 8000000 in
theorem stM_if1 {W : World} {p M lf : Nat} {all cs : List Nat} {out : TL} (h : MkI W p M all cs ((lf : Int) + 1) out) (hlf : lf ≤ 1000) (n : Nat) (hSt : StC n) (hn : n ≤ 100) (hk : hdB cs % 10 = 8) (hm : 128 ≤ hdB cs)  (hlen : out.length + ((3, wIf) :: ((mkT 2 (tlB cs)).1.tk ++ blkT (mkBlk (mkS n) lf (mkT 2 (tlB cs)).2).ps ++ (3, wElse) :: blkT (mkBlk (mkS n) (mkBlk (mkS n) lf (mkT 2 (tlB cs)).2).left (mkBlk (mkS n) lf (mkT 2 (tlB cs)).2).cs).ps)).length ≤ 1000000) :
    Calls Tryz.prog 12 #[mpt p, .int .i64 ((n : Int) + 1)] W (StP W p M all out ⟨sIf (mkT 2 (tlB cs)).1.ex (PL.st (mkBlk (mkS n) lf (mkT 2 (tlB cs)).2).ps) (PL.st (mkBlk (mkS n) (mkBlk (mkS n) lf (mkT 2 (tlB cs)).2).left (mkBlk (mkS n) lf (mkT 2 (tlB cs)).2).cs).ps), (3, wIf) :: ((mkT 2 (tlB cs)).1.tk ++ blkT (mkBlk (mkS n) lf (mkT 2 (tlB cs)).2).ps ++ (3, wElse) :: blkT (mkBlk (mkS n) (mkBlk (mkS n) lf (mkT 2 (tlB cs)).2).left (mkBlk (mkS n) lf (mkT 2 (tlB cs)).2).cs).ps), (mkBlk (mkS n) (mkBlk (mkS n) lf (mkT 2 (tlB cs)).2).left (mkBlk (mkS n) lf (mkT 2 (tlB cs)).2).cs).left, (mkBlk (mkS n) (mkBlk (mkS n) lf (mkT 2 (tlB cs)).2).left (mkBlk (mkS n) lf (mkT 2 (tlB cs)).2).cs).cs⟩) := by
  have hp := h.p_lt
  have hby := h.byt.tl
  have h256 := h.byt.hd
  have H0 := Lib.hid h
  have C := Lib.hid (byteM (h.al sZ))
  have hwl : IntKind.i64.wrap (lf : Int) = (lf : Int) := IntWalk.i64_in _ (by omega)
  have qk : (hdB cs : Int) % 10 = 8 := by omega
  have qm : (128 : Int) ≤ (hdB cs : Int) := by omega
  have hdz : ¬ ((n : Int) + 1 ≤ 0) := by omega
  have hwn : IntKind.i64.wrap (n : Int) = (n : Int) := IntWalk.i64_in _ (by omega)
  have HSt := Lib.hid hSt
  clear hSt
  clear h
  generalize hb : hdB cs = b at *
  generalize hr : tlB cs = r at *
  go_enter Tryz.func12, Tryz.ntmps12
  try simp only [List.append_eq, List.cons_append, List.nil_append]
  go_wp2_with fail
  refine C.out.mono ?_
  rintro E w1 ⟨rfl, hI, hF⟩
  have HM2 := Lib.hid (MidS.start (lf := (lf : Int)) H0.out hI hF 9)
  have hz2 : ((w1.setCell ⟨p, 2, none⟩ (.int .i64 (lf : Int))).alloc (sK 9)).heap.size = w1.heap.size + 1 := by rw [S3.sz1]; simp [World.setCell]
  have hp1 := hI.p_lt
  have hq2 : w1.heap.size < ((w1.setCell ⟨p, 2, none⟩ (.int .i64 (lf : Int))).alloc (sK 9)).heap.size := by rw [hz2]; omega
  obtain ⟨j0, j1, j2, j3⟩ : w1.cell? ⟨p, 0, none⟩ = w1.cell? ⟨p, 0, none⟩ ∧ True ∧ w1.cell? ⟨p, 2, none⟩ = some (.int .i64 ((lf : Int) + 1)) ∧ w1.frozen? ⟨p, 2, none⟩ = false := by
    obtain ⟨⟨_, _, _, _, _, _, h4, _⟩, _⟩ := hI
    exact ⟨rfl, trivial, (mk_row h4).2.2.1, mk_froz h4⟩
  clear j0 j1 hI hF C H0
  obtain ⟨g0, g1, g2, g3, g4, g5, g6, g7⟩ := HM2.out.facts
  go_wp2_with fail
  generalize w1.heap.size = q at *
  generalize (w1.setCell ⟨p, 2, none⟩ (.int .i64 (lf : Int))).alloc (sK 9) = w2 at *
  have HMa := Lib.hid (HM2.out.al (.cells #[.string ⟨#[105, 102]⟩, .string ⟨#[119, 104, 105, 108, 101]⟩] 9))
  have hS : StrL ((w2.alloc (.cells #[.string ⟨#[105, 102]⟩, .string ⟨#[119, 104, 105, 108, 101]⟩] 9)).alloc (.cells #[.string ⟨#[105, 102]⟩] 9)) ((w2.alloc (.cells #[.string ⟨#[105, 102]⟩, .string ⟨#[119, 104, 105, 108, 101]⟩] 9)).alloc (.cells #[.string ⟨#[105, 102]⟩] 9)).heap.size (.slice (some ⟨(w2.alloc (.cells #[.string ⟨#[105, 102]⟩, .string ⟨#[119, 104, 105, 108, 101]⟩] 9)).heap.size, 0, none⟩) 1 1) [[105, 102]] := strL_new (w2.alloc (.cells #[.string ⟨#[105, 102]⟩, .string ⟨#[119, 104, 105, 108, 101]⟩] 9)) [[105, 102]] 9 rfl
  have D := addM (HMa.out.mki.al (.cells #[.string ⟨#[105, 102]⟩] 9)) hS (by simp) (by first | omega | (simp; omega) | (simp at hlen ⊢; omega))
  rw [show List.map wtk [[105, 102]] = [(3, wIf)] by decide +kernel] at D
  rw [S3.sz1 w2, hz2] at D
  have D := Lib.hid D
  have HX := Lib.hid (HMa.out.al (.cells #[.string ⟨#[105, 102]⟩] 9))
  refine D.out.mono ?_
  rintro E w3 ⟨rfl, hI, hF⟩
  have HM3 := Lib.hid (HX.out.step hI hF)
  clear hS D HX hI hF HM2 HMa hz2
  have X := exprM_all 2 (by omega) false w3 p M all _ _ _ HM3.out.mki (by rw [tokT_false]; simp at hlen ⊢; omega)
  rw [show ((2 : Nat) : Int) + 1 = 3 from rfl, tokT_false] at X
  have hok := tr_okE6 (mkT_ok 2 r (by first | exact hby | exact hby.tl | exact hby.tl.tl)).1
  generalize hrr : mkT 2 r = rr at *
  have X := Lib.hid X
  have hqx : q < w3.heap.size := HM3.out.pt.2.1
  obtain ⟨g0, g1, g2, g3, g4, g5, g6, g7⟩ := HM3.out.facts
  have hqn := HM3.out.pt.2.1
  go_wp2_with fail
  refine X.out.mono ?_
  rintro E w4 ⟨A, kk, c, rfl, hEr, hI, hF⟩
  have hM4 := HM3.out.step hI hF
  have z5 := hM4.froz (i := 5)
  obtain ⟨g0, g1, g2, g3, g4, g5, g6, g7⟩ := hM4.facts
  have hqm := hM4.pt.2.1
  obtain ⟨i1, i2, hz5⟩ := hM4.one hEr hqx hok
  have HM5 := Lib.hid i1
  have HE := Lib.hid i2
  clear hI hF hEr hok X i1 i2 HM3 hM4
  go_wp2_with fail
  generalize (w4.setCell ⟨q, 5, none⟩ (.slice (some ⟨w4.heap.size, 0, none⟩) 1 1)).alloc (S3.eO rr.1.ex (.slice A kk c)) = w5 at *
  have X := blockM HSt.out (left := lf) HM5.out.mki (hlf) (by simp [blkT] at hlen ⊢; omega)
  have hl6 : (mkBlk (mkS n) lf rr.2).left ≤ 1000 := Nat.le_trans (mkBl_left (mkS_left n) _ _ _) hlf
  generalize hb6 : mkBlk (mkS n) lf rr.2 = rb at *
  have X := Lib.hid X
  have hqx : q < w5.heap.size := HM5.out.pt.2.1
  refine X.out.mono ?_
  rintro E w6 ⟨Ab, c6, rfl, hEr, hI, hF⟩
  have hM6 := HM5.out.step hI hF
  have z6 := hM6.froz (i := 6)
  obtain ⟨g0, g1, g2, g3, g4, g5, g6, g7⟩ := hM6.facts
  have hqm := hM6.pt.2.1
  have HE := Lib.hid (hM6.er (i := 6) (u := .slice Ab rb.ps.length c6) (er_frm' HE.out hF))
  have HM7 := Lib.hid (hM6.set6 (.slice Ab rb.ps.length c6))
  have HSB := Lib.hid (hM6.sr (i := 6) (u := .slice Ab rb.ps.length c6) (hEr.keep (R' := PtM p (q + 1) w6) (fun _ h => h.mono (by omega)) fun _ _ _ => rfl))
  have hz7 : (w6.setCell ⟨q, 6, none⟩ (.slice Ab rb.ps.length c6)).heap.size = w6.heap.size := by simp [World.setCell]
  clear hI hF hEr X HM5 hM6
  go_wp2_with fail
  generalize w6.setCell ⟨q, 6, none⟩ (.slice Ab rb.ps.length c6) = w7 at *
  have hS : StrL (w7.alloc (.cells #[.string ⟨#[101, 108, 115, 101]⟩] 9)) (w7.alloc (.cells #[.string ⟨#[101, 108, 115, 101]⟩] 9)).heap.size (.slice (some ⟨w7.heap.size, 0, none⟩) 1 1) [[101, 108, 115, 101]] := strL_new w7 [[101, 108, 115, 101]] 9 rfl
  have D := addM (HM7.out.mki.al (.cells #[.string ⟨#[101, 108, 115, 101]⟩] 9)) hS (by simp) (by first | omega | (simp; omega) | (simp at hlen ⊢; omega))
  rw [show List.map wtk [[101, 108, 115, 101]] = [(3, wElse)] by decide +kernel] at D
  rw [hz7] at D
  have D := Lib.hid D
  have HX := Lib.hid (HM7.out.al (.cells #[.string ⟨#[101, 108, 115, 101]⟩] 9))
  have hpx := HM7.out.p_lt
  refine D.out.mono ?_
  rintro E w8 ⟨rfl, hI, hF⟩
  have HM8 := Lib.hid (HX.out.step hI hF)
  have HE := Lib.hid (er_frm' HE.out ((FrM.al _ _ hpx).trans hF))
  have HSB := Lib.hid (sr_frm' HSB.out ((FrM.al _ _ hpx).trans hF))
  clear hS D HX hpx hI hF HM7 hz7
  obtain ⟨g0, g1, g2, g3, g4, g5, g6, g7⟩ := HM8.out.facts
  have hqn := HM8.out.pt.2.1
  go_wp2_with fail
  have X := blockM HSt.out (left := rb.left) HM8.out.mki (hl6) (by simp [blkT] at hlen ⊢; omega)
  have hl7 : (mkBlk (mkS n) rb.left rb.cs).left ≤ 1000 := Nat.le_trans (mkBl_left (mkS_left n) _ _ _) hl6
  generalize hb7 : mkBlk (mkS n) rb.left rb.cs = re at *
  have X := Lib.hid X
  have hqx : q < w8.heap.size := HM8.out.pt.2.1
  refine X.out.mono ?_
  rintro E w9 ⟨Ae, c7, rfl, hEr, hI, hF⟩
  have hM9 := HM8.out.step hI hF
  have z7 := hM9.froz (i := 7)
  obtain ⟨g0, g1, g2, g3, g4, g5, g6, g7⟩ := hM9.facts
  have hqm := hM9.pt.2.1
  have HE := Lib.hid (hM9.er (i := 7) (u := .slice Ae re.ps.length c7) (er_frm' HE.out hF))
  have HSB := Lib.hid (hM9.sr (i := 7) (u := .slice Ae re.ps.length c7) (sr_frm' HSB.out hF))
  have HM10 := Lib.hid (hM9.set7 (.slice Ae re.ps.length c7))
  have HSE := Lib.hid (hM9.sr (i := 7) (u := .slice Ae re.ps.length c7) (hEr.keep (R' := PtM p (q + 1) w9) (fun _ h => h.mono (by omega)) fun _ _ _ => rfl))
  have hz10 : (w9.setCell ⟨q, 7, none⟩ (.slice Ae re.ps.length c7)).heap.size = w9.heap.size := by simp [World.setCell]
  clear hI hF hEr X HM8 hM9
  obtain ⟨g0, g1, g2, g3, g4, g5, g6, g7⟩ := HM10.out.facts
  have hqm := HM10.out.pt.2.1
  obtain ⟨z0, z1, z2, z3, z4, z5, z6, z7, r0, r1, r2, r3, r4, r5, r6, r7, y0, y1, y2, y3, y4, y5, y6, y7⟩ := HM10.out.r8.facts
  have hq1 := HM10.out.r8.lt
  have HD := Lib.hid ((HM10.out.cast (out' := out ++ ((3, wIf) :: (rr.1.tk ++ blkT rb.ps ++ (3, wElse) :: blkT re.ps))) (by first | rfl | simp only [List.append_assoc, List.cons_append, List.nil_append])).done (s := sIf rr.1.ex (PL.st rb.ps) (PL.st re.ps)) ⟨⟨okI_n (k := 9) ⟨by decide, by decide⟩, okI_n (k := 0) ⟨by decide, by decide⟩, okI_n (k := 0) ⟨by decide, by decide⟩, by simp, by simp⟩, HE.out, HSB.out, HSE.out⟩ (.int .i64 9) (.int .i64 0) (.string ⟨#[]⟩) (.int .i64 0) (.string ⟨#[]⟩) (.slice (some ⟨w4.heap.size, 0, none⟩) 1 1) (.slice Ab rb.ps.length c6) (.slice Ae re.ps.length c7))
  clear HM10
  go_wp2_with fail
  exact bodyPost_ret (v := S3.sV (sIf rr.1.ex (PL.st rb.ps) (PL.st re.ps)) (.slice (some ⟨w4.heap.size, 0, none⟩) 1 1) (.slice Ab rb.ps.length c6) (.slice Ae re.ps.length c7)) (by simp [results, Tryz.results12, go_sem, r0, r1, r2, r3, r4, r5, r6, r7]) rfl HD.out
end Go.Proofs.YtipepljmfgjbpaaGreatDoor.E6
