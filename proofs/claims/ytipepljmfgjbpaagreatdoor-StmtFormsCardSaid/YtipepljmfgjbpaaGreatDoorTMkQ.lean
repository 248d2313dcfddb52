/-
  The maker of statements: stmt, kind by kind. Written by gen6_mkt.py.
  The maker of statements: stmt, kind by kind. Written by gen6_mkt.py.
  The maker of statements: stmt, all kinds, by induction on how deep.
  The maker of statements: made; how many tokens at most.
  The maker of statements: made.
  StmtNeeded, the plain part: what is read of a statement's tokens that are cut, or with another token in the place of one.
-/
import Derived.Test.YtipepljmfgjbpaaGreatDoorTMkT
import Derived.BigRegion
import Derived.Lib.AppendZeros
import Derived.Deep.RegionWith
import Derived.Deep.RegionHeld3
import Derived.BigQuiet
import Derived.Test.YtipepljmfgjbpaaGreatDoorEFrame
namespace Go.Proofs.YtipepljmfgjbpaaGreatDoor.E6
open Go Go.RowKit Go.Proofs.YtipepljmfgjbpaaGreatDoor Go.Proofs.YtipepljmfgjbpaaGreatDoor.E5

set_option maxRecDepth 100000 in
set_option maxHeartbeats 8000000 in
theorem stM_store1 {W : World} {p M lf : Nat} {all cs : List Nat} {out : TL} (h : MkI W p M all cs ((lf : Int) + 1) out) (hlf : lf ≤ 1000) (deep : Int) (hdz : deep ≤ 0) (hk : hdB cs % 10 = 2) (hlen : out.length + ((1, nmW (hdB (tlB cs))) :: (4, [91]) :: ((mkT 2 (tlB (tlB cs))).1.tk ++ (4, [93]) :: tEq :: ((mkT 2 (mkT 2 (tlB (tlB cs))).2).1.tk ++ [tSemi]))).length ≤ 1000000) :
    Calls Tryz.prog 12 #[mpt p, .int .i64 deep] W (StP W p M all out ⟨sStore (nmW (hdB (tlB cs))) (mkT 2 (tlB (tlB cs))).1.ex (mkT 2 (mkT 2 (tlB (tlB cs))).2).1.ex, (1, nmW (hdB (tlB cs))) :: (4, [91]) :: ((mkT 2 (tlB (tlB cs))).1.tk ++ (4, [93]) :: tEq :: ((mkT 2 (mkT 2 (tlB (tlB cs))).2).1.tk ++ [tSemi])), lf, (mkT 2 (mkT 2 (tlB (tlB cs))).2).2⟩) := by
  have hp := h.p_lt
  have hby := h.byt.tl
  have h256 := h.byt.hd
  have H0 := Lib.hid h
  have C := Lib.hid (byteM (h.al sZ))
  have hwl : IntKind.i64.wrap (lf : Int) = (lf : Int) := IntWalk.i64_in _ (by omega)
  have qk : (hdB cs : Int) % 10 = 2 := by omega
  have hok2 := tr_okE6 (mkT_ok 2 (mkT 2 (tlB (tlB cs))).2 (mkT_ok 2 _ hby.tl).2.2).1
  clear h
  generalize hb : hdB cs = b at *
  generalize hr : tlB cs = r at *
  go_enter Tryz.func12, Tryz.ntmps12
  try simp only [List.append_eq, List.cons_append, List.nil_append]
  go_wp2_with fail
  refine C.out.mono ?_
  rintro E w1 ⟨rfl, hI, hF⟩
  have HM2 := Lib.hid (MidS.start (lf := (lf : Int)) H0.out hI hF 3)
  have hz2 : ((w1.setCell ⟨p, 2, none⟩ (.int .i64 (lf : Int))).alloc (sK 3)).heap.size = w1.heap.size + 1 := by rw [S3.sz1]; simp [World.setCell]
  have hp1 := hI.p_lt
  have hq2 : w1.heap.size < ((w1.setCell ⟨p, 2, none⟩ (.int .i64 (lf : Int))).alloc (sK 3)).heap.size := by rw [hz2]; omega
  obtain ⟨j0, j1, j2, j3⟩ : w1.cell? ⟨p, 0, none⟩ = w1.cell? ⟨p, 0, none⟩ ∧ True ∧ w1.cell? ⟨p, 2, none⟩ = some (.int .i64 ((lf : Int) + 1)) ∧ w1.frozen? ⟨p, 2, none⟩ = false := by
    obtain ⟨⟨_, _, _, _, _, _, h4, _⟩, _⟩ := hI
    exact ⟨rfl, trivial, (mk_row h4).2.2.1, mk_froz h4⟩
  clear j0 j1 hI hF C H0
  obtain ⟨g0, g1, g2, g3, g4, g5, g6, g7⟩ := HM2.out.facts
  go_wp2_with fail
  generalize w1.heap.size = q at *
  generalize (w1.setCell ⟨p, 2, none⟩ (.int .i64 (lf : Int))).alloc (sK 3) = w2 at *
  have hqq := HM2.out.pt.2.1
  have N := Lib.hid (nameM HM2.out.mki (by first | omega | (simp; omega) | (simp at hlen ⊢; omega)))
  refine N.out.mono ?_
  rintro E w3 ⟨rfl, hI, hF⟩
  have hM3 := HM2.out.step hI hF
  have z2 := hM3.froz (i := 2)
  obtain ⟨g0, g1, g2, g3, g4, g5, g6, g7⟩ := hM3.facts
  have hqm := hM3.pt.2.1
  have HM4 := Lib.hid (hM3.set2 (.string (B (nmW (hdB r)))))
  have hz4 : (w3.setCell ⟨q, 2, none⟩ (.string (B (nmW (hdB r))))).heap.size = w3.heap.size := by simp [World.setCell]
  clear N hI hF HM2 hM3
  go_wp2_with fail
  generalize w3.setCell ⟨q, 2, none⟩ (.string (B (nmW (hdB r)))) = w4 at *
  have hS : StrL (w4.alloc (.cells #[.string ⟨#[91]⟩] 9)) (w4.alloc (.cells #[.string ⟨#[91]⟩] 9)).heap.size (.slice (some ⟨w4.heap.size, 0, none⟩) 1 1) [[91]] := strL_new w4 [[91]] 9 rfl
  have D := addM (HM4.out.mki.al (.cells #[.string ⟨#[91]⟩] 9)) hS (by simp) (by first | omega | (simp; omega) | (simp at hlen ⊢; omega))
  rw [show List.map wtk [[91]] = [(4, [91])] by decide +kernel] at D
  rw [hz4] at D
  have D := Lib.hid D
  have HX := Lib.hid (HM4.out.al (.cells #[.string ⟨#[91]⟩] 9))
  have hpx := HM4.out.p_lt
  refine D.out.mono ?_
  rintro E w5 ⟨rfl, hI, hF⟩
  have HM5 := Lib.hid (HX.out.step hI hF)
  clear hS D HX hpx hI hF HM4 hz4
  have X := exprM_all 2 (by omega) false w5 p M all _ _ _ HM5.out.mki (by rw [tokT_false]; simp at hlen ⊢; omega)
  rw [show ((2 : Nat) : Int) + 1 = 3 from rfl, tokT_false] at X
  have hok := tr_okE6 (mkT_ok 2 (tlB r) (by exact hby.tl)).1
  generalize hrr : mkT 2 (tlB r) = rr at *
  have X := Lib.hid X
  have hqx : q < w5.heap.size := HM5.out.pt.2.1
  obtain ⟨g0, g1, g2, g3, g4, g5, g6, g7⟩ := HM5.out.facts
  have hqn := HM5.out.pt.2.1
  go_wp2_with fail
  refine X.out.mono ?_
  rintro E w6 ⟨Al, kl, cl, rfl, hEr, hI, hF⟩
  have hM6 := HM5.out.step hI hF
  have hFal := FrM.al w6 (S3.eO rr.1.ex (.slice Al kl cl)) hM6.p_lt
  have HL := Lib.hid (show BoxM p (q + 1) (w6.alloc (S3.eO rr.1.ex (.slice Al kl cl))) w6.heap.size (.int .i64 rr.1.ex.kind) (.int .i64 rr.1.ex.op) (.int .i64 rr.1.ex.num) (.string (S3.B rr.1.ex.name)) (.slice Al kl cl) from ⟨heap_alloc_new w6 _, PtM.new hM6.mki _ (by have := hM6.pt.2.1; omega)⟩)
  have HE := Lib.hid ((er_frm' hEr hFal).keep (R' := PtM p (q + 1) (w6.alloc (S3.eO rr.1.ex (.slice Al kl cl)))) (fun _ h => h.mono (by omega)) fun _ _ _ => rfl)
  have HM7 := Lib.hid (hM6.al (S3.eO rr.1.ex (.slice Al kl cl)))
  have hz7 := S3.sz1 w6 (S3.eO rr.1.ex (.slice Al kl cl))
  clear hI hF hEr hFal X HM5 hM6
  go_wp2_with fail
  generalize hq8 : w6.heap.size = q8 at *
  generalize w6.alloc (S3.eO rr.1.ex (.slice Al kl cl)) = w7 at *
  have hS : StrL (w7.alloc (.cells #[.string ⟨#[93]⟩, .string ⟨#[61]⟩] 9)) (w7.alloc (.cells #[.string ⟨#[93]⟩, .string ⟨#[61]⟩] 9)).heap.size (.slice (some ⟨w7.heap.size, 0, none⟩) 2 2) [[93], [61]] := strL_new w7 [[93], [61]] 9 rfl
  have D := addM (HM7.out.mki.al (.cells #[.string ⟨#[93]⟩, .string ⟨#[61]⟩] 9)) hS (by simp) (by simp at hlen ⊢; omega)
  rw [show List.map wtk [[93], [61]] = [(4, [93]), tEq] by decide +kernel] at D
  rw [hz7] at D
  have D := Lib.hid D
  have HX := Lib.hid (HM7.out.al (.cells #[.string ⟨#[93]⟩, .string ⟨#[61]⟩] 9))
  have hpx := HM7.out.p_lt
  refine D.out.mono ?_
  rintro E w8 ⟨rfl, hI, hF⟩
  have HM8 := Lib.hid (HX.out.step hI hF)
  have HL := Lib.hid (HL.out.step ((FrM.al w7 (.cells #[.string ⟨#[93]⟩, .string ⟨#[61]⟩] 9) hpx).trans hF))
  have HE := Lib.hid (er_frm' HE.out ((FrM.al w7 (.cells #[.string ⟨#[93]⟩, .string ⟨#[61]⟩] 9) hpx).trans hF))
  clear hS D HX hpx hI hF HM7 hz7
  go_wp2_with fail
  have hS0 : Hid True := Lib.hid trivial
  refine wp_region_noPanic ?_
  refine wp_region_held_drew (S := fun _ => Hid True) (by kernel_rfl) hS0 (fun hHeld => ?_)
  have hbd := bal_drM w8
  generalize w8.drew = wd at *
  have hFd := FrM.bel hbd HM8.out.p_lt
  have HM9 := Lib.hid (HM8.out.step (HM8.out.mki.bel hbd) hFd)
  have HL9 := Lib.hid (HL.out.step hFd)
  have HE9 := Lib.hid (er_frm' HE.out hFd)
  have X := exprM_all 2 (by omega) false wd p M all _ _ _ HM9.out.mki (by rw [tokT_false]; simp at hlen ⊢; omega)
  rw [show ((2 : Nat) : Int) + 1 = 3 from rfl, tokT_false] at X
  generalize hrr2 : mkT 2 rr.2 = ss at *
  have X := Lib.hid X
  obtain ⟨l0, l1, l2, l3, l4⟩ := HL9.out.facts
  clear hbd hFd HM8 HL HE
  refine wpAnyH_take (i := 1) (oi := { dst := some 98, op := Go.Op.move (Go.Operand.tmp 0), type := 44, pos := "outright.go:143", after := #[], guard := none }) (v := ?_) rfl (by as_aux_lemma => kernel_rfl) (by as_aux_lemma => kernel_rfl) (by as_aux_lemma => kernel_rfl) (fun _ _ _ h => h) (Or.inl ⟨by rfl, ?_⟩) hHeld ?_
  rotate_left
  · (intro w hSw; (try dsimp only at hSw); go_simp; try with_reducible rfl)
  try simp only [Act.put, List.setIfInBounds_toArray, List.set_cons_zero, List.set_cons_succ]
  refine wpAnyH_ready (rs := [0, 2]) (by as_aux_lemma => kernel_rfl) (List.cons_ne_nil _ _) ?_
  refine AllReadyH.cons (o := { dst := some 97, op := Go.Op.load 67 (Go.Operand.tmp 8), type := 67, pos := "outright.go:143", after := #[], guard := none }) rfl (fun K hK => ?_) (AllReadyH.cons (o := { dst := some 99, op := Go.Op.call { callee := Go.Callee.value (Go.Operand.func 27), args := #[Go.Operand.tmp 98, Go.Operand.const (Go.Value.int Go.IntKind.i64 3), Go.Operand.const (Go.Value.bool false)], argTypes := #[44, 3, 4] }, type := 67, pos := "outright.go:143", after := #[{ on := 1, ground := Go.Ground.data }], guard := none }) rfl (fun K hK => ?_) AllReadyH.nil)
  · go_simp
    refine hK.out _ _ (Lib.hid trivial) (fun _ => ?_)
    clear hK K
    try simp only [Act.put, List.setIfInBounds_toArray, List.set_cons_zero, List.set_cons_succ]
    refine wpAnyH_ready (rs := [2]) (by as_aux_lemma => kernel_rfl) (List.cons_ne_nil _ _) ?_
    refine AllReadyH.cons (o := { dst := some 99, op := Go.Op.call { callee := Go.Callee.value (Go.Operand.func 27), args := #[Go.Operand.tmp 98, Go.Operand.const (Go.Value.int Go.IntKind.i64 3), Go.Operand.const (Go.Value.bool false)], argTypes := #[44, 3, 4] }, type := 67, pos := "outright.go:143", after := #[{ on := 1, ground := Go.Ground.data }], guard := none }) rfl (fun K hK => ?_) AllReadyH.nil
    go_simp
    refine X.out.mono ?_
    rintro e w18 ⟨A2, k2, c2, rfl, hE2, hI, hF⟩
    have HM18 := Lib.hid (HM9.out.step hI hF)
    have hl18 := HL9.out.step hF
    obtain ⟨m0, m1, m2, m3, m4⟩ := hl18.facts
    have HE18 := Lib.hid (er_frm' HE9.out hF)
    have hqd := HM9.out.pt.2.1
    have HR18 := Lib.hid (hE2.keep (R' := PtM p (q + 1) w18) (fun _ h => h.mono (by omega)) fun _ _ _ => rfl)
    clear hE2 hI hF hl18 X HM9 HL9 HE9 l0 l1 l2 l3 l4
    go_wp2_with fail
    refine hK.out _ _ (Lib.hid trivial) (fun _ => ?_)
    clear hK K
    try simp only [Act.put, List.setIfInBounds_toArray, List.set_cons_zero, List.set_cons_succ]
    have hFa := FrM.al w18 (.cells #[.int .i64 rr.1.ex.kind, .int .i64 rr.1.ex.op, .int .i64 rr.1.ex.num, .string (S3.B rr.1.ex.name), .slice Al kl cl, .int .i64 ss.1.ex.kind, .int .i64 ss.1.ex.op, .int .i64 ss.1.ex.num, .string (S3.B ss.1.ex.name), .slice A2 k2 c2] 67) HM18.out.p_lt
    have hMa := HM18.out.al (.cells #[.int .i64 rr.1.ex.kind, .int .i64 rr.1.ex.op, .int .i64 rr.1.ex.num, .string (S3.B rr.1.ex.name), .slice Al kl cl, .int .i64 ss.1.ex.kind, .int .i64 ss.1.ex.op, .int .i64 ss.1.ex.num, .string (S3.B ss.1.ex.name), .slice A2 k2 c2] 67)
    have hEa : S3.ER (w18.alloc (.cells #[.int .i64 rr.1.ex.kind, .int .i64 rr.1.ex.op, .int .i64 rr.1.ex.num, .string (S3.B rr.1.ex.name), .slice Al kl cl, .int .i64 ss.1.ex.kind, .int .i64 ss.1.ex.op, .int .i64 ss.1.ex.num, .string (S3.B ss.1.ex.name), .slice A2 k2 c2] 67)) (PtM p (q + 1) (w18.alloc (.cells #[.int .i64 rr.1.ex.kind, .int .i64 rr.1.ex.op, .int .i64 rr.1.ex.num, .string (S3.B rr.1.ex.name), .slice Al kl cl, .int .i64 ss.1.ex.kind, .int .i64 ss.1.ex.op, .int .i64 ss.1.ex.num, .string (S3.B ss.1.ex.name), .slice A2 k2 c2] 67))) [rr.1.ex, ss.1.ex] (.slice (some ⟨w18.heap.size, 0, none⟩) 2 2) :=
      erM_two (R := PtM p (q + 1) w18) (fun x hx => hx.mv hFa) (fun x hx => hx.2.1) (PtM.new HM18.out.mki _ HM18.out.pt.2.1) hok hok2 HE18.out HR18.out 67 _ rfl 2
    have z5 := hMa.froz (i := 5)
    obtain ⟨g0, g1, g2, g3, g4, g5, g6, g7⟩ := hMa.facts
    have hqm := hMa.pt.2.1
    have HM20 := Lib.hid (hMa.set5 (.slice (some ⟨w18.heap.size, 0, none⟩) 2 2))
    have HE := Lib.hid (hMa.er (i := 5) (u := (.slice (some ⟨w18.heap.size, 0, none⟩) 2 2)) hEa)
    have hz20 : ((w18.alloc (.cells #[.int .i64 rr.1.ex.kind, .int .i64 rr.1.ex.op, .int .i64 rr.1.ex.num, .string (S3.B rr.1.ex.name), .slice Al kl cl, .int .i64 ss.1.ex.kind, .int .i64 ss.1.ex.op, .int .i64 ss.1.ex.num, .string (S3.B ss.1.ex.name), .slice A2 k2 c2] 67)).setCell ⟨q, 5, none⟩ (.slice (some ⟨w18.heap.size, 0, none⟩) 2 2)).heap.size = w18.heap.size + 1 := by rw [← S3.sz1 w18 (.cells #[.int .i64 rr.1.ex.kind, .int .i64 rr.1.ex.op, .int .i64 rr.1.ex.num, .string (S3.B rr.1.ex.name), .slice Al kl cl, .int .i64 ss.1.ex.kind, .int .i64 ss.1.ex.op, .int .i64 ss.1.ex.num, .string (S3.B ss.1.ex.name), .slice A2 k2 c2] 67)]; simp [World.setCell]
    clear hFa hMa hEa HM18 HE18 HR18
    refine wpAnyH_ready (rs := [3]) (by as_aux_lemma => kernel_rfl) (List.cons_ne_nil _ _) ?_
    refine AllReadyH.cons (o := { dst := some 100, op := Go.Op.buildSlice 24 2 #[(0, Go.Operand.tmp 97), (1, Go.Operand.tmp 99)], type := 24, pos := "outright.go:143", after := #[{ on := 0, ground := Go.Ground.data }, { on := 2, ground := Go.Ground.data }], guard := none }) rfl (fun K hK => ?_) AllReadyH.nil
    go_simp
    refine hK.out _ _ (Lib.hid trivial) (fun hHeld2 => ?_)
    clear hK K hHeld
    have hHeld := hHeld2
    clear hHeld2
    try simp only [Act.put, List.setIfInBounds_toArray, List.set_cons_zero, List.set_cons_succ]
    refine wpAnyH_ready (rs := [4]) (by as_aux_lemma => kernel_rfl) (List.cons_ne_nil _ _) ?_
    refine AllReadyH.cons (o := { dst := some 101, op := Go.Op.fieldAddr 27 (Go.Operand.tmp 6) 5, type := 0, pos := "outright.go:143", after := #[{ on := 0, ground := Go.Ground.phase }, { on := 1, ground := Go.Ground.phase }, { on := 2, ground := Go.Ground.phase }, { on := 3, ground := Go.Ground.phase }], guard := none }) rfl (fun K hK => ?_) AllReadyH.nil
    go_simp
    refine hK.out _ _ (Lib.hid trivial) (fun _ => ?_)
    clear hK K
    try simp only [Act.put, List.setIfInBounds_toArray, List.set_cons_zero, List.set_cons_succ]
    refine wpAnyH_ready (rs := [5]) (by as_aux_lemma => kernel_rfl) (List.cons_ne_nil _ _) ?_
    refine AllReadyH.cons (o := { dst := none, op := Go.Op.store 24 (Go.Operand.tmp 101) (Go.Operand.tmp 100), type := 0, pos := "outright.go:143", after := #[{ on := 4, ground := Go.Ground.data }, { on := 3, ground := Go.Ground.data }, { on := 2, ground := Go.Ground.chain }, { on := 0, ground := Go.Ground.phase }, { on := 1, ground := Go.Ground.phase }, { on := 2, ground := Go.Ground.phase }, { on := 3, ground := Go.Ground.phase }], guard := none }) rfl (fun K hK => ?_) AllReadyH.nil
    go_wp2_with fail
    refine hK.out _ _ (Lib.hid trivial) (fun _ => ?_)
    clear hK K
    try simp only [Act.put, List.setIfInBounds_toArray, List.set_cons_zero, List.set_cons_succ]
    refine wpAnyH_done (by kernel_rfl) ?_ _
    refine NoPanic.normal ?_
    go_wp2_with fail
    have hS : StrL (((w18.alloc (.cells #[.int .i64 rr.1.ex.kind, .int .i64 rr.1.ex.op, .int .i64 rr.1.ex.num, .string (S3.B rr.1.ex.name), .slice Al kl cl, .int .i64 ss.1.ex.kind, .int .i64 ss.1.ex.op, .int .i64 ss.1.ex.num, .string (S3.B ss.1.ex.name), .slice A2 k2 c2] 67)).setCell ⟨q, 5, none⟩ (.slice (some ⟨w18.heap.size, 0, none⟩) 2 2)).alloc (.cells #[.string ⟨#[59]⟩] 9)) (((w18.alloc (.cells #[.int .i64 rr.1.ex.kind, .int .i64 rr.1.ex.op, .int .i64 rr.1.ex.num, .string (S3.B rr.1.ex.name), .slice Al kl cl, .int .i64 ss.1.ex.kind, .int .i64 ss.1.ex.op, .int .i64 ss.1.ex.num, .string (S3.B ss.1.ex.name), .slice A2 k2 c2] 67)).setCell ⟨q, 5, none⟩ (.slice (some ⟨w18.heap.size, 0, none⟩) 2 2)).alloc (.cells #[.string ⟨#[59]⟩] 9)).heap.size (.slice (some ⟨((w18.alloc (.cells #[.int .i64 rr.1.ex.kind, .int .i64 rr.1.ex.op, .int .i64 rr.1.ex.num, .string (S3.B rr.1.ex.name), .slice Al kl cl, .int .i64 ss.1.ex.kind, .int .i64 ss.1.ex.op, .int .i64 ss.1.ex.num, .string (S3.B ss.1.ex.name), .slice A2 k2 c2] 67)).setCell ⟨q, 5, none⟩ (.slice (some ⟨w18.heap.size, 0, none⟩) 2 2)).heap.size, 0, none⟩) 1 1) [[59]] := strL_new ((w18.alloc (.cells #[.int .i64 rr.1.ex.kind, .int .i64 rr.1.ex.op, .int .i64 rr.1.ex.num, .string (S3.B rr.1.ex.name), .slice Al kl cl, .int .i64 ss.1.ex.kind, .int .i64 ss.1.ex.op, .int .i64 ss.1.ex.num, .string (S3.B ss.1.ex.name), .slice A2 k2 c2] 67)).setCell ⟨q, 5, none⟩ (.slice (some ⟨w18.heap.size, 0, none⟩) 2 2)) [[59]] 9 rfl
    have D := addM (HM20.out.mki.al (.cells #[.string ⟨#[59]⟩] 9)) hS (by simp) (by simp at hlen ⊢; omega)
    rw [show List.map wtk [[59]] = [tSemi] by decide +kernel] at D
    rw [hz20] at D
    have D := Lib.hid D
    have HX := Lib.hid (HM20.out.al (.cells #[.string ⟨#[59]⟩] 9))
    have hpx := HM20.out.p_lt
    refine D.out.mono ?_
    rintro E w21 ⟨rfl, hI, hF⟩
    have HM21 := Lib.hid (HX.out.step hI hF)
    have HE := Lib.hid (er_frm' HE.out ((FrM.al _ _ hpx).trans hF))
    clear hS D HX hpx hI hF HM20 hz20
    obtain ⟨g0, g1, g2, g3, g4, g5, g6, g7⟩ := HM21.out.facts
    have hqm := HM21.out.pt.2.1
    obtain ⟨z0, z1, z2, z3, z4, z5, z6, z7, r0, r1, r2, r3, r4, r5, r6, r7, y0, y1, y2, y3, y4, y5, y6, y7⟩ := HM21.out.r8.facts
    have hq1 := HM21.out.r8.lt
    have HD := Lib.hid ((HM21.out.cast (out' := out ++ ((1, (nmW (hdB r))) :: (4, [91]) :: (rr.1.tk ++ (4, [93]) :: tEq :: (ss.1.tk ++ [tSemi])))) (by first | rfl | simp only [List.append_assoc, List.cons_append, List.nil_append])).done (s := sStore (nmW (hdB r)) rr.1.ex ss.1.ex) ⟨⟨okI_n (k := 3) ⟨by decide, by decide⟩, okI_n (k := 0) ⟨by decide, by decide⟩, okI_n (k := 0) ⟨by decide, by decide⟩, nmW_le _, by simp⟩, HE.out, S3.SR.nil none 0, S3.SR.nil none 0⟩ (.int .i64 3) (.int .i64 0) (.string (B (nmW (hdB r)))) (.int .i64 0) (.string ⟨#[]⟩) (.slice (some ⟨w18.heap.size, 0, none⟩) 2 2) (.slice none 0 0) (.slice none 0 0))
    clear HM21
    go_wp2_with fail
    exact bodyPost_ret (v := S3.sV (sStore (nmW (hdB r)) rr.1.ex ss.1.ex) (.slice (some ⟨w18.heap.size, 0, none⟩) 2 2) (.slice none 0 0) (.slice none 0 0)) (by simp [results, Tryz.results12, go_sem, r0, r1, r2, r3, r4, r5, r6, r7]) rfl HD.out
  · go_simp
    refine X.out.mono ?_
    rintro e w18 ⟨A2, k2, c2, rfl, hE2, hI, hF⟩
    have HM18 := Lib.hid (HM9.out.step hI hF)
    have hl18 := HL9.out.step hF
    obtain ⟨m0, m1, m2, m3, m4⟩ := hl18.facts
    have HE18 := Lib.hid (er_frm' HE9.out hF)
    have hqd := HM9.out.pt.2.1
    have HR18 := Lib.hid (hE2.keep (R' := PtM p (q + 1) w18) (fun _ h => h.mono (by omega)) fun _ _ _ => rfl)
    clear hE2 hI hF hl18 X HM9 HL9 HE9 l0 l1 l2 l3 l4
    go_wp2_with fail
    refine hK.out _ _ (Lib.hid trivial) (fun _ => ?_)
    clear hK K
    try simp only [Act.put, List.setIfInBounds_toArray, List.set_cons_zero, List.set_cons_succ]
    refine wpAnyH_ready (rs := [0]) (by as_aux_lemma => kernel_rfl) (List.cons_ne_nil _ _) ?_
    refine AllReadyH.cons (o := { dst := some 97, op := Go.Op.load 67 (Go.Operand.tmp 8), type := 67, pos := "outright.go:143", after := #[], guard := none }) rfl (fun K hK => ?_) AllReadyH.nil
    go_simp
    refine hK.out _ _ (Lib.hid trivial) (fun _ => ?_)
    clear hK K
    try simp only [Act.put, List.setIfInBounds_toArray, List.set_cons_zero, List.set_cons_succ]
    have hFa := FrM.al w18 (.cells #[.int .i64 rr.1.ex.kind, .int .i64 rr.1.ex.op, .int .i64 rr.1.ex.num, .string (S3.B rr.1.ex.name), .slice Al kl cl, .int .i64 ss.1.ex.kind, .int .i64 ss.1.ex.op, .int .i64 ss.1.ex.num, .string (S3.B ss.1.ex.name), .slice A2 k2 c2] 67) HM18.out.p_lt
    have hMa := HM18.out.al (.cells #[.int .i64 rr.1.ex.kind, .int .i64 rr.1.ex.op, .int .i64 rr.1.ex.num, .string (S3.B rr.1.ex.name), .slice Al kl cl, .int .i64 ss.1.ex.kind, .int .i64 ss.1.ex.op, .int .i64 ss.1.ex.num, .string (S3.B ss.1.ex.name), .slice A2 k2 c2] 67)
    have hEa : S3.ER (w18.alloc (.cells #[.int .i64 rr.1.ex.kind, .int .i64 rr.1.ex.op, .int .i64 rr.1.ex.num, .string (S3.B rr.1.ex.name), .slice Al kl cl, .int .i64 ss.1.ex.kind, .int .i64 ss.1.ex.op, .int .i64 ss.1.ex.num, .string (S3.B ss.1.ex.name), .slice A2 k2 c2] 67)) (PtM p (q + 1) (w18.alloc (.cells #[.int .i64 rr.1.ex.kind, .int .i64 rr.1.ex.op, .int .i64 rr.1.ex.num, .string (S3.B rr.1.ex.name), .slice Al kl cl, .int .i64 ss.1.ex.kind, .int .i64 ss.1.ex.op, .int .i64 ss.1.ex.num, .string (S3.B ss.1.ex.name), .slice A2 k2 c2] 67))) [rr.1.ex, ss.1.ex] (.slice (some ⟨w18.heap.size, 0, none⟩) 2 2) :=
      erM_two (R := PtM p (q + 1) w18) (fun x hx => hx.mv hFa) (fun x hx => hx.2.1) (PtM.new HM18.out.mki _ HM18.out.pt.2.1) hok hok2 HE18.out HR18.out 67 _ rfl 2
    have z5 := hMa.froz (i := 5)
    obtain ⟨g0, g1, g2, g3, g4, g5, g6, g7⟩ := hMa.facts
    have hqm := hMa.pt.2.1
    have HM20 := Lib.hid (hMa.set5 (.slice (some ⟨w18.heap.size, 0, none⟩) 2 2))
    have HE := Lib.hid (hMa.er (i := 5) (u := (.slice (some ⟨w18.heap.size, 0, none⟩) 2 2)) hEa)
    have hz20 : ((w18.alloc (.cells #[.int .i64 rr.1.ex.kind, .int .i64 rr.1.ex.op, .int .i64 rr.1.ex.num, .string (S3.B rr.1.ex.name), .slice Al kl cl, .int .i64 ss.1.ex.kind, .int .i64 ss.1.ex.op, .int .i64 ss.1.ex.num, .string (S3.B ss.1.ex.name), .slice A2 k2 c2] 67)).setCell ⟨q, 5, none⟩ (.slice (some ⟨w18.heap.size, 0, none⟩) 2 2)).heap.size = w18.heap.size + 1 := by rw [← S3.sz1 w18 (.cells #[.int .i64 rr.1.ex.kind, .int .i64 rr.1.ex.op, .int .i64 rr.1.ex.num, .string (S3.B rr.1.ex.name), .slice Al kl cl, .int .i64 ss.1.ex.kind, .int .i64 ss.1.ex.op, .int .i64 ss.1.ex.num, .string (S3.B ss.1.ex.name), .slice A2 k2 c2] 67)]; simp [World.setCell]
    clear hFa hMa hEa HM18 HE18 HR18
    refine wpAnyH_ready (rs := [3]) (by as_aux_lemma => kernel_rfl) (List.cons_ne_nil _ _) ?_
    refine AllReadyH.cons (o := { dst := some 100, op := Go.Op.buildSlice 24 2 #[(0, Go.Operand.tmp 97), (1, Go.Operand.tmp 99)], type := 24, pos := "outright.go:143", after := #[{ on := 0, ground := Go.Ground.data }, { on := 2, ground := Go.Ground.data }], guard := none }) rfl (fun K hK => ?_) AllReadyH.nil
    go_simp
    refine hK.out _ _ (Lib.hid trivial) (fun hHeld2 => ?_)
    clear hK K hHeld
    have hHeld := hHeld2
    clear hHeld2
    try simp only [Act.put, List.setIfInBounds_toArray, List.set_cons_zero, List.set_cons_succ]
    refine wpAnyH_ready (rs := [4]) (by as_aux_lemma => kernel_rfl) (List.cons_ne_nil _ _) ?_
    refine AllReadyH.cons (o := { dst := some 101, op := Go.Op.fieldAddr 27 (Go.Operand.tmp 6) 5, type := 0, pos := "outright.go:143", after := #[{ on := 0, ground := Go.Ground.phase }, { on := 1, ground := Go.Ground.phase }, { on := 2, ground := Go.Ground.phase }, { on := 3, ground := Go.Ground.phase }], guard := none }) rfl (fun K hK => ?_) AllReadyH.nil
    go_simp
    refine hK.out _ _ (Lib.hid trivial) (fun _ => ?_)
    clear hK K
    try simp only [Act.put, List.setIfInBounds_toArray, List.set_cons_zero, List.set_cons_succ]
    refine wpAnyH_ready (rs := [5]) (by as_aux_lemma => kernel_rfl) (List.cons_ne_nil _ _) ?_
    refine AllReadyH.cons (o := { dst := none, op := Go.Op.store 24 (Go.Operand.tmp 101) (Go.Operand.tmp 100), type := 0, pos := "outright.go:143", after := #[{ on := 4, ground := Go.Ground.data }, { on := 3, ground := Go.Ground.data }, { on := 2, ground := Go.Ground.chain }, { on := 0, ground := Go.Ground.phase }, { on := 1, ground := Go.Ground.phase }, { on := 2, ground := Go.Ground.phase }, { on := 3, ground := Go.Ground.phase }], guard := none }) rfl (fun K hK => ?_) AllReadyH.nil
    go_wp2_with fail
    refine hK.out _ _ (Lib.hid trivial) (fun _ => ?_)
    clear hK K
    try simp only [Act.put, List.setIfInBounds_toArray, List.set_cons_zero, List.set_cons_succ]
    refine wpAnyH_done (by kernel_rfl) ?_ _
    refine NoPanic.normal ?_
    go_wp2_with fail
    have hS : StrL (((w18.alloc (.cells #[.int .i64 rr.1.ex.kind, .int .i64 rr.1.ex.op, .int .i64 rr.1.ex.num, .string (S3.B rr.1.ex.name), .slice Al kl cl, .int .i64 ss.1.ex.kind, .int .i64 ss.1.ex.op, .int .i64 ss.1.ex.num, .string (S3.B ss.1.ex.name), .slice A2 k2 c2] 67)).setCell ⟨q, 5, none⟩ (.slice (some ⟨w18.heap.size, 0, none⟩) 2 2)).alloc (.cells #[.string ⟨#[59]⟩] 9)) (((w18.alloc (.cells #[.int .i64 rr.1.ex.kind, .int .i64 rr.1.ex.op, .int .i64 rr.1.ex.num, .string (S3.B rr.1.ex.name), .slice Al kl cl, .int .i64 ss.1.ex.kind, .int .i64 ss.1.ex.op, .int .i64 ss.1.ex.num, .string (S3.B ss.1.ex.name), .slice A2 k2 c2] 67)).setCell ⟨q, 5, none⟩ (.slice (some ⟨w18.heap.size, 0, none⟩) 2 2)).alloc (.cells #[.string ⟨#[59]⟩] 9)).heap.size (.slice (some ⟨((w18.alloc (.cells #[.int .i64 rr.1.ex.kind, .int .i64 rr.1.ex.op, .int .i64 rr.1.ex.num, .string (S3.B rr.1.ex.name), .slice Al kl cl, .int .i64 ss.1.ex.kind, .int .i64 ss.1.ex.op, .int .i64 ss.1.ex.num, .string (S3.B ss.1.ex.name), .slice A2 k2 c2] 67)).setCell ⟨q, 5, none⟩ (.slice (some ⟨w18.heap.size, 0, none⟩) 2 2)).heap.size, 0, none⟩) 1 1) [[59]] := strL_new ((w18.alloc (.cells #[.int .i64 rr.1.ex.kind, .int .i64 rr.1.ex.op, .int .i64 rr.1.ex.num, .string (S3.B rr.1.ex.name), .slice Al kl cl, .int .i64 ss.1.ex.kind, .int .i64 ss.1.ex.op, .int .i64 ss.1.ex.num, .string (S3.B ss.1.ex.name), .slice A2 k2 c2] 67)).setCell ⟨q, 5, none⟩ (.slice (some ⟨w18.heap.size, 0, none⟩) 2 2)) [[59]] 9 rfl
    have D := addM (HM20.out.mki.al (.cells #[.string ⟨#[59]⟩] 9)) hS (by simp) (by simp at hlen ⊢; omega)
    rw [show List.map wtk [[59]] = [tSemi] by decide +kernel] at D
    rw [hz20] at D
    have D := Lib.hid D
    have HX := Lib.hid (HM20.out.al (.cells #[.string ⟨#[59]⟩] 9))
    have hpx := HM20.out.p_lt
    refine D.out.mono ?_
    rintro E w21 ⟨rfl, hI, hF⟩
    have HM21 := Lib.hid (HX.out.step hI hF)
    have HE := Lib.hid (er_frm' HE.out ((FrM.al _ _ hpx).trans hF))
    clear hS D HX hpx hI hF HM20 hz20
    obtain ⟨g0, g1, g2, g3, g4, g5, g6, g7⟩ := HM21.out.facts
    have hqm := HM21.out.pt.2.1
    obtain ⟨z0, z1, z2, z3, z4, z5, z6, z7, r0, r1, r2, r3, r4, r5, r6, r7, y0, y1, y2, y3, y4, y5, y6, y7⟩ := HM21.out.r8.facts
    have hq1 := HM21.out.r8.lt
    have HD := Lib.hid ((HM21.out.cast (out' := out ++ ((1, (nmW (hdB r))) :: (4, [91]) :: (rr.1.tk ++ (4, [93]) :: tEq :: (ss.1.tk ++ [tSemi])))) (by first | rfl | simp only [List.append_assoc, List.cons_append, List.nil_append])).done (s := sStore (nmW (hdB r)) rr.1.ex ss.1.ex) ⟨⟨okI_n (k := 3) ⟨by decide, by decide⟩, okI_n (k := 0) ⟨by decide, by decide⟩, okI_n (k := 0) ⟨by decide, by decide⟩, nmW_le _, by simp⟩, HE.out, S3.SR.nil none 0, S3.SR.nil none 0⟩ (.int .i64 3) (.int .i64 0) (.string (B (nmW (hdB r)))) (.int .i64 0) (.string ⟨#[]⟩) (.slice (some ⟨w18.heap.size, 0, none⟩) 2 2) (.slice none 0 0) (.slice none 0 0))
    clear HM21
    go_wp2_with fail
    exact bodyPost_ret (v := S3.sV (sStore (nmW (hdB r)) rr.1.ex ss.1.ex) (.slice (some ⟨w18.heap.size, 0, none⟩) 2 2) (.slice none 0 0) (.slice none 0 0)) (by simp [results, Tryz.results12, go_sem, r0, r1, r2, r3, r4, r5, r6, r7]) rfl HD.out
set_option maxRecDepth 100000 in
set_option maxHeartbeats 8000000 in
theorem stM_store0 {W : World} {p M lf : Nat} {all cs : List Nat} {out : TL} (h : MkI W p M all cs ((lf : Int) + 1) out) (hlf : lf ≤ 1000) (deep : Int) (hdz : ¬ deep ≤ 0) (hk : hdB cs % 10 = 2) (hlen : out.length + ((1, nmW (hdB (tlB cs))) :: (4, [91]) :: ((mkT 2 (tlB (tlB cs))).1.tk ++ (4, [93]) :: tEq :: ((mkT 2 (mkT 2 (tlB (tlB cs))).2).1.tk ++ [tSemi]))).length ≤ 1000000) :
    Calls Tryz.prog 12 #[mpt p, .int .i64 deep] W (StP W p M all out ⟨sStore (nmW (hdB (tlB cs))) (mkT 2 (tlB (tlB cs))).1.ex (mkT 2 (mkT 2 (tlB (tlB cs))).2).1.ex, (1, nmW (hdB (tlB cs))) :: (4, [91]) :: ((mkT 2 (tlB (tlB cs))).1.tk ++ (4, [93]) :: tEq :: ((mkT 2 (mkT 2 (tlB (tlB cs))).2).1.tk ++ [tSemi])), lf, (mkT 2 (mkT 2 (tlB (tlB cs))).2).2⟩) := by
  have hp := h.p_lt
  have hby := h.byt.tl
  have h256 := h.byt.hd
  have H0 := Lib.hid h
  have C := Lib.hid (byteM (h.al sZ))
  have hwl : IntKind.i64.wrap (lf : Int) = (lf : Int) := IntWalk.i64_in _ (by omega)
  have qk : (hdB cs : Int) % 10 = 2 := by omega
  have hok2 := tr_okE6 (mkT_ok 2 (mkT 2 (tlB (tlB cs))).2 (mkT_ok 2 _ hby.tl).2.2).1
  clear h
  generalize hb : hdB cs = b at *
  generalize hr : tlB cs = r at *
  go_enter Tryz.func12, Tryz.ntmps12
  try simp only [List.append_eq, List.cons_append, List.nil_append]
  go_wp2_with fail
  refine C.out.mono ?_
  rintro E w1 ⟨rfl, hI, hF⟩
  have HM2 := Lib.hid (MidS.start (lf := (lf : Int)) H0.out hI hF 3)
  have hz2 : ((w1.setCell ⟨p, 2, none⟩ (.int .i64 (lf : Int))).alloc (sK 3)).heap.size = w1.heap.size + 1 := by rw [S3.sz1]; simp [World.setCell]
  have hp1 := hI.p_lt
  have hq2 : w1.heap.size < ((w1.setCell ⟨p, 2, none⟩ (.int .i64 (lf : Int))).alloc (sK 3)).heap.size := by rw [hz2]; omega
  obtain ⟨j0, j1, j2, j3⟩ : w1.cell? ⟨p, 0, none⟩ = w1.cell? ⟨p, 0, none⟩ ∧ True ∧ w1.cell? ⟨p, 2, none⟩ = some (.int .i64 ((lf : Int) + 1)) ∧ w1.frozen? ⟨p, 2, none⟩ = false := by
    obtain ⟨⟨_, _, _, _, _, _, h4, _⟩, _⟩ := hI
    exact ⟨rfl, trivial, (mk_row h4).2.2.1, mk_froz h4⟩
  clear j0 j1 hI hF C H0
  obtain ⟨g0, g1, g2, g3, g4, g5, g6, g7⟩ := HM2.out.facts
  go_wp2_with fail
  generalize w1.heap.size = q at *
  generalize (w1.setCell ⟨p, 2, none⟩ (.int .i64 (lf : Int))).alloc (sK 3) = w2 at *
  have hqq := HM2.out.pt.2.1
  have N := Lib.hid (nameM HM2.out.mki (by first | omega | (simp; omega) | (simp at hlen ⊢; omega)))
  refine N.out.mono ?_
  rintro E w3 ⟨rfl, hI, hF⟩
  have hM3 := HM2.out.step hI hF
  have z2 := hM3.froz (i := 2)
  obtain ⟨g0, g1, g2, g3, g4, g5, g6, g7⟩ := hM3.facts
  have hqm := hM3.pt.2.1
  have HM4 := Lib.hid (hM3.set2 (.string (B (nmW (hdB r)))))
  have hz4 : (w3.setCell ⟨q, 2, none⟩ (.string (B (nmW (hdB r))))).heap.size = w3.heap.size := by simp [World.setCell]
  clear N hI hF HM2 hM3
  go_wp2_with fail
  generalize w3.setCell ⟨q, 2, none⟩ (.string (B (nmW (hdB r)))) = w4 at *
  have hS : StrL (w4.alloc (.cells #[.string ⟨#[91]⟩] 9)) (w4.alloc (.cells #[.string ⟨#[91]⟩] 9)).heap.size (.slice (some ⟨w4.heap.size, 0, none⟩) 1 1) [[91]] := strL_new w4 [[91]] 9 rfl
  have D := addM (HM4.out.mki.al (.cells #[.string ⟨#[91]⟩] 9)) hS (by simp) (by first | omega | (simp; omega) | (simp at hlen ⊢; omega))
  rw [show List.map wtk [[91]] = [(4, [91])] by decide +kernel] at D
  rw [hz4] at D
  have D := Lib.hid D
  have HX := Lib.hid (HM4.out.al (.cells #[.string ⟨#[91]⟩] 9))
  have hpx := HM4.out.p_lt
  refine D.out.mono ?_
  rintro E w5 ⟨rfl, hI, hF⟩
  have HM5 := Lib.hid (HX.out.step hI hF)
  clear hS D HX hpx hI hF HM4 hz4
  have X := exprM_all 2 (by omega) false w5 p M all _ _ _ HM5.out.mki (by rw [tokT_false]; simp at hlen ⊢; omega)
  rw [show ((2 : Nat) : Int) + 1 = 3 from rfl, tokT_false] at X
  have hok := tr_okE6 (mkT_ok 2 (tlB r) (by exact hby.tl)).1
  generalize hrr : mkT 2 (tlB r) = rr at *
  have X := Lib.hid X
  have hqx : q < w5.heap.size := HM5.out.pt.2.1
  obtain ⟨g0, g1, g2, g3, g4, g5, g6, g7⟩ := HM5.out.facts
  have hqn := HM5.out.pt.2.1
  go_wp2_with fail
  refine X.out.mono ?_
  rintro E w6 ⟨Al, kl, cl, rfl, hEr, hI, hF⟩
  have hM6 := HM5.out.step hI hF
  have hFal := FrM.al w6 (S3.eO rr.1.ex (.slice Al kl cl)) hM6.p_lt
  have HL := Lib.hid (show BoxM p (q + 1) (w6.alloc (S3.eO rr.1.ex (.slice Al kl cl))) w6.heap.size (.int .i64 rr.1.ex.kind) (.int .i64 rr.1.ex.op) (.int .i64 rr.1.ex.num) (.string (S3.B rr.1.ex.name)) (.slice Al kl cl) from ⟨heap_alloc_new w6 _, PtM.new hM6.mki _ (by have := hM6.pt.2.1; omega)⟩)
  have HE := Lib.hid ((er_frm' hEr hFal).keep (R' := PtM p (q + 1) (w6.alloc (S3.eO rr.1.ex (.slice Al kl cl)))) (fun _ h => h.mono (by omega)) fun _ _ _ => rfl)
  have HM7 := Lib.hid (hM6.al (S3.eO rr.1.ex (.slice Al kl cl)))
  have hz7 := S3.sz1 w6 (S3.eO rr.1.ex (.slice Al kl cl))
  clear hI hF hEr hFal X HM5 hM6
  go_wp2_with fail
  generalize hq8 : w6.heap.size = q8 at *
  generalize w6.alloc (S3.eO rr.1.ex (.slice Al kl cl)) = w7 at *
  have hS : StrL (w7.alloc (.cells #[.string ⟨#[93]⟩, .string ⟨#[61]⟩] 9)) (w7.alloc (.cells #[.string ⟨#[93]⟩, .string ⟨#[61]⟩] 9)).heap.size (.slice (some ⟨w7.heap.size, 0, none⟩) 2 2) [[93], [61]] := strL_new w7 [[93], [61]] 9 rfl
  have D := addM (HM7.out.mki.al (.cells #[.string ⟨#[93]⟩, .string ⟨#[61]⟩] 9)) hS (by simp) (by simp at hlen ⊢; omega)
  rw [show List.map wtk [[93], [61]] = [(4, [93]), tEq] by decide +kernel] at D
  rw [hz7] at D
  have D := Lib.hid D
  have HX := Lib.hid (HM7.out.al (.cells #[.string ⟨#[93]⟩, .string ⟨#[61]⟩] 9))
  have hpx := HM7.out.p_lt
  refine D.out.mono ?_
  rintro E w8 ⟨rfl, hI, hF⟩
  have HM8 := Lib.hid (HX.out.step hI hF)
  have HL := Lib.hid (HL.out.step ((FrM.al w7 (.cells #[.string ⟨#[93]⟩, .string ⟨#[61]⟩] 9) hpx).trans hF))
  have HE := Lib.hid (er_frm' HE.out ((FrM.al w7 (.cells #[.string ⟨#[93]⟩, .string ⟨#[61]⟩] 9) hpx).trans hF))
  clear hS D HX hpx hI hF HM7 hz7
  go_wp2_with fail
  have hS0 : Hid True := Lib.hid trivial
  refine wp_region_noPanic ?_
  refine wp_region_held_drew (S := fun _ => Hid True) (by kernel_rfl) hS0 (fun hHeld => ?_)
  have hbd := bal_drM w8
  generalize w8.drew = wd at *
  have hFd := FrM.bel hbd HM8.out.p_lt
  have HM9 := Lib.hid (HM8.out.step (HM8.out.mki.bel hbd) hFd)
  have HL9 := Lib.hid (HL.out.step hFd)
  have HE9 := Lib.hid (er_frm' HE.out hFd)
  have X := exprM_all 2 (by omega) false wd p M all _ _ _ HM9.out.mki (by rw [tokT_false]; simp at hlen ⊢; omega)
  rw [show ((2 : Nat) : Int) + 1 = 3 from rfl, tokT_false] at X
  generalize hrr2 : mkT 2 rr.2 = ss at *
  have X := Lib.hid X
  obtain ⟨l0, l1, l2, l3, l4⟩ := HL9.out.facts
  clear hbd hFd HM8 HL HE
  refine wpAnyH_take (i := 1) (oi := { dst := some 98, op := Go.Op.move (Go.Operand.tmp 0), type := 44, pos := "outright.go:143", after := #[], guard := none }) (v := ?_) rfl (by as_aux_lemma => kernel_rfl) (by as_aux_lemma => kernel_rfl) (by as_aux_lemma => kernel_rfl) (fun _ _ _ h => h) (Or.inl ⟨by rfl, ?_⟩) hHeld ?_
  rotate_left
  · (intro w hSw; (try dsimp only at hSw); go_simp; try with_reducible rfl)
  try simp only [Act.put, List.setIfInBounds_toArray, List.set_cons_zero, List.set_cons_succ]
  refine wpAnyH_ready (rs := [0, 2]) (by as_aux_lemma => kernel_rfl) (List.cons_ne_nil _ _) ?_
  refine AllReadyH.cons (o := { dst := some 97, op := Go.Op.load 67 (Go.Operand.tmp 8), type := 67, pos := "outright.go:143", after := #[], guard := none }) rfl (fun K hK => ?_) (AllReadyH.cons (o := { dst := some 99, op := Go.Op.call { callee := Go.Callee.value (Go.Operand.func 27), args := #[Go.Operand.tmp 98, Go.Operand.const (Go.Value.int Go.IntKind.i64 3), Go.Operand.const (Go.Value.bool false)], argTypes := #[44, 3, 4] }, type := 67, pos := "outright.go:143", after := #[{ on := 1, ground := Go.Ground.data }], guard := none }) rfl (fun K hK => ?_) AllReadyH.nil)
  · go_simp
    refine hK.out _ _ (Lib.hid trivial) (fun _ => ?_)
    clear hK K
    try simp only [Act.put, List.setIfInBounds_toArray, List.set_cons_zero, List.set_cons_succ]
    refine wpAnyH_ready (rs := [2]) (by as_aux_lemma => kernel_rfl) (List.cons_ne_nil _ _) ?_
    refine AllReadyH.cons (o := { dst := some 99, op := Go.Op.call { callee := Go.Callee.value (Go.Operand.func 27), args := #[Go.Operand.tmp 98, Go.Operand.const (Go.Value.int Go.IntKind.i64 3), Go.Operand.const (Go.Value.bool false)], argTypes := #[44, 3, 4] }, type := 67, pos := "outright.go:143", after := #[{ on := 1, ground := Go.Ground.data }], guard := none }) rfl (fun K hK => ?_) AllReadyH.nil
    go_simp
    refine X.out.mono ?_
    rintro e w18 ⟨A2, k2, c2, rfl, hE2, hI, hF⟩
    have HM18 := Lib.hid (HM9.out.step hI hF)
    have hl18 := HL9.out.step hF
    obtain ⟨m0, m1, m2, m3, m4⟩ := hl18.facts
    have HE18 := Lib.hid (er_frm' HE9.out hF)
    have hqd := HM9.out.pt.2.1
    have HR18 := Lib.hid (hE2.keep (R' := PtM p (q + 1) w18) (fun _ h => h.mono (by omega)) fun _ _ _ => rfl)
    clear hE2 hI hF hl18 X HM9 HL9 HE9 l0 l1 l2 l3 l4
    go_wp2_with fail
    refine hK.out _ _ (Lib.hid trivial) (fun _ => ?_)
    clear hK K
    try simp only [Act.put, List.setIfInBounds_toArray, List.set_cons_zero, List.set_cons_succ]
    have hFa := FrM.al w18 (.cells #[.int .i64 rr.1.ex.kind, .int .i64 rr.1.ex.op, .int .i64 rr.1.ex.num, .string (S3.B rr.1.ex.name), .slice Al kl cl, .int .i64 ss.1.ex.kind, .int .i64 ss.1.ex.op, .int .i64 ss.1.ex.num, .string (S3.B ss.1.ex.name), .slice A2 k2 c2] 67) HM18.out.p_lt
    have hMa := HM18.out.al (.cells #[.int .i64 rr.1.ex.kind, .int .i64 rr.1.ex.op, .int .i64 rr.1.ex.num, .string (S3.B rr.1.ex.name), .slice Al kl cl, .int .i64 ss.1.ex.kind, .int .i64 ss.1.ex.op, .int .i64 ss.1.ex.num, .string (S3.B ss.1.ex.name), .slice A2 k2 c2] 67)
    have hEa : S3.ER (w18.alloc (.cells #[.int .i64 rr.1.ex.kind, .int .i64 rr.1.ex.op, .int .i64 rr.1.ex.num, .string (S3.B rr.1.ex.name), .slice Al kl cl, .int .i64 ss.1.ex.kind, .int .i64 ss.1.ex.op, .int .i64 ss.1.ex.num, .string (S3.B ss.1.ex.name), .slice A2 k2 c2] 67)) (PtM p (q + 1) (w18.alloc (.cells #[.int .i64 rr.1.ex.kind, .int .i64 rr.1.ex.op, .int .i64 rr.1.ex.num, .string (S3.B rr.1.ex.name), .slice Al kl cl, .int .i64 ss.1.ex.kind, .int .i64 ss.1.ex.op, .int .i64 ss.1.ex.num, .string (S3.B ss.1.ex.name), .slice A2 k2 c2] 67))) [rr.1.ex, ss.1.ex] (.slice (some ⟨w18.heap.size, 0, none⟩) 2 2) :=
      erM_two (R := PtM p (q + 1) w18) (fun x hx => hx.mv hFa) (fun x hx => hx.2.1) (PtM.new HM18.out.mki _ HM18.out.pt.2.1) hok hok2 HE18.out HR18.out 67 _ rfl 2
    have z5 := hMa.froz (i := 5)
    obtain ⟨g0, g1, g2, g3, g4, g5, g6, g7⟩ := hMa.facts
    have hqm := hMa.pt.2.1
    have HM20 := Lib.hid (hMa.set5 (.slice (some ⟨w18.heap.size, 0, none⟩) 2 2))
    have HE := Lib.hid (hMa.er (i := 5) (u := (.slice (some ⟨w18.heap.size, 0, none⟩) 2 2)) hEa)
    have hz20 : ((w18.alloc (.cells #[.int .i64 rr.1.ex.kind, .int .i64 rr.1.ex.op, .int .i64 rr.1.ex.num, .string (S3.B rr.1.ex.name), .slice Al kl cl, .int .i64 ss.1.ex.kind, .int .i64 ss.1.ex.op, .int .i64 ss.1.ex.num, .string (S3.B ss.1.ex.name), .slice A2 k2 c2] 67)).setCell ⟨q, 5, none⟩ (.slice (some ⟨w18.heap.size, 0, none⟩) 2 2)).heap.size = w18.heap.size + 1 := by rw [← S3.sz1 w18 (.cells #[.int .i64 rr.1.ex.kind, .int .i64 rr.1.ex.op, .int .i64 rr.1.ex.num, .string (S3.B rr.1.ex.name), .slice Al kl cl, .int .i64 ss.1.ex.kind, .int .i64 ss.1.ex.op, .int .i64 ss.1.ex.num, .string (S3.B ss.1.ex.name), .slice A2 k2 c2] 67)]; simp [World.setCell]
    clear hFa hMa hEa HM18 HE18 HR18
    refine wpAnyH_ready (rs := [3]) (by as_aux_lemma => kernel_rfl) (List.cons_ne_nil _ _) ?_
    refine AllReadyH.cons (o := { dst := some 100, op := Go.Op.buildSlice 24 2 #[(0, Go.Operand.tmp 97), (1, Go.Operand.tmp 99)], type := 24, pos := "outright.go:143", after := #[{ on := 0, ground := Go.Ground.data }, { on := 2, ground := Go.Ground.data }], guard := none }) rfl (fun K hK => ?_) AllReadyH.nil
    go_simp
    refine hK.out _ _ (Lib.hid trivial) (fun hHeld2 => ?_)
    clear hK K hHeld
    have hHeld := hHeld2
    clear hHeld2
    try simp only [Act.put, List.setIfInBounds_toArray, List.set_cons_zero, List.set_cons_succ]
    refine wpAnyH_ready (rs := [4]) (by as_aux_lemma => kernel_rfl) (List.cons_ne_nil _ _) ?_
    refine AllReadyH.cons (o := { dst := some 101, op := Go.Op.fieldAddr 27 (Go.Operand.tmp 6) 5, type := 0, pos := "outright.go:143", after := #[{ on := 0, ground := Go.Ground.phase }, { on := 1, ground := Go.Ground.phase }, { on := 2, ground := Go.Ground.phase }, { on := 3, ground := Go.Ground.phase }], guard := none }) rfl (fun K hK => ?_) AllReadyH.nil
    go_simp
    refine hK.out _ _ (Lib.hid trivial) (fun _ => ?_)
    clear hK K
    try simp only [Act.put, List.setIfInBounds_toArray, List.set_cons_zero, List.set_cons_succ]
    refine wpAnyH_ready (rs := [5]) (by as_aux_lemma => kernel_rfl) (List.cons_ne_nil _ _) ?_
    refine AllReadyH.cons (o := { dst := none, op := Go.Op.store 24 (Go.Operand.tmp 101) (Go.Operand.tmp 100), type := 0, pos := "outright.go:143", after := #[{ on := 4, ground := Go.Ground.data }, { on := 3, ground := Go.Ground.data }, { on := 2, ground := Go.Ground.chain }, { on := 0, ground := Go.Ground.phase }, { on := 1, ground := Go.Ground.phase }, { on := 2, ground := Go.Ground.phase }, { on := 3, ground := Go.Ground.phase }], guard := none }) rfl (fun K hK => ?_) AllReadyH.nil
    go_wp2_with fail
    refine hK.out _ _ (Lib.hid trivial) (fun _ => ?_)
    clear hK K
    try simp only [Act.put, List.setIfInBounds_toArray, List.set_cons_zero, List.set_cons_succ]
    refine wpAnyH_done (by kernel_rfl) ?_ _
    refine NoPanic.normal ?_
    go_wp2_with fail
    have hS : StrL (((w18.alloc (.cells #[.int .i64 rr.1.ex.kind, .int .i64 rr.1.ex.op, .int .i64 rr.1.ex.num, .string (S3.B rr.1.ex.name), .slice Al kl cl, .int .i64 ss.1.ex.kind, .int .i64 ss.1.ex.op, .int .i64 ss.1.ex.num, .string (S3.B ss.1.ex.name), .slice A2 k2 c2] 67)).setCell ⟨q, 5, none⟩ (.slice (some ⟨w18.heap.size, 0, none⟩) 2 2)).alloc (.cells #[.string ⟨#[59]⟩] 9)) (((w18.alloc (.cells #[.int .i64 rr.1.ex.kind, .int .i64 rr.1.ex.op, .int .i64 rr.1.ex.num, .string (S3.B rr.1.ex.name), .slice Al kl cl, .int .i64 ss.1.ex.kind, .int .i64 ss.1.ex.op, .int .i64 ss.1.ex.num, .string (S3.B ss.1.ex.name), .slice A2 k2 c2] 67)).setCell ⟨q, 5, none⟩ (.slice (some ⟨w18.heap.size, 0, none⟩) 2 2)).alloc (.cells #[.string ⟨#[59]⟩] 9)).heap.size (.slice (some ⟨((w18.alloc (.cells #[.int .i64 rr.1.ex.kind, .int .i64 rr.1.ex.op, .int .i64 rr.1.ex.num, .string (S3.B rr.1.ex.name), .slice Al kl cl, .int .i64 ss.1.ex.kind, .int .i64 ss.1.ex.op, .int .i64 ss.1.ex.num, .string (S3.B ss.1.ex.name), .slice A2 k2 c2] 67)).setCell ⟨q, 5, none⟩ (.slice (some ⟨w18.heap.size, 0, none⟩) 2 2)).heap.size, 0, none⟩) 1 1) [[59]] := strL_new ((w18.alloc (.cells #[.int .i64 rr.1.ex.kind, .int .i64 rr.1.ex.op, .int .i64 rr.1.ex.num, .string (S3.B rr.1.ex.name), .slice Al kl cl, .int .i64 ss.1.ex.kind, .int .i64 ss.1.ex.op, .int .i64 ss.1.ex.num, .string (S3.B ss.1.ex.name), .slice A2 k2 c2] 67)).setCell ⟨q, 5, none⟩ (.slice (some ⟨w18.heap.size, 0, none⟩) 2 2)) [[59]] 9 rfl
    have D := addM (HM20.out.mki.al (.cells #[.string ⟨#[59]⟩] 9)) hS (by simp) (by simp at hlen ⊢; omega)
    rw [show List.map wtk [[59]] = [tSemi] by decide +kernel] at D
    rw [hz20] at D
    have D := Lib.hid D
    have HX := Lib.hid (HM20.out.al (.cells #[.string ⟨#[59]⟩] 9))
    have hpx := HM20.out.p_lt
    refine D.out.mono ?_
    rintro E w21 ⟨rfl, hI, hF⟩
    have HM21 := Lib.hid (HX.out.step hI hF)
    have HE := Lib.hid (er_frm' HE.out ((FrM.al _ _ hpx).trans hF))
    clear hS D HX hpx hI hF HM20 hz20
    obtain ⟨g0, g1, g2, g3, g4, g5, g6, g7⟩ := HM21.out.facts
    have hqm := HM21.out.pt.2.1
    obtain ⟨z0, z1, z2, z3, z4, z5, z6, z7, r0, r1, r2, r3, r4, r5, r6, r7, y0, y1, y2, y3, y4, y5, y6, y7⟩ := HM21.out.r8.facts
    have hq1 := HM21.out.r8.lt
    have HD := Lib.hid ((HM21.out.cast (out' := out ++ ((1, (nmW (hdB r))) :: (4, [91]) :: (rr.1.tk ++ (4, [93]) :: tEq :: (ss.1.tk ++ [tSemi])))) (by first | rfl | simp only [List.append_assoc, List.cons_append, List.nil_append])).done (s := sStore (nmW (hdB r)) rr.1.ex ss.1.ex) ⟨⟨okI_n (k := 3) ⟨by decide, by decide⟩, okI_n (k := 0) ⟨by decide, by decide⟩, okI_n (k := 0) ⟨by decide, by decide⟩, nmW_le _, by simp⟩, HE.out, S3.SR.nil none 0, S3.SR.nil none 0⟩ (.int .i64 3) (.int .i64 0) (.string (B (nmW (hdB r)))) (.int .i64 0) (.string ⟨#[]⟩) (.slice (some ⟨w18.heap.size, 0, none⟩) 2 2) (.slice none 0 0) (.slice none 0 0))
    clear HM21
    go_wp2_with fail
    exact bodyPost_ret (v := S3.sV (sStore (nmW (hdB r)) rr.1.ex ss.1.ex) (.slice (some ⟨w18.heap.size, 0, none⟩) 2 2) (.slice none 0 0) (.slice none 0 0)) (by simp [results, Tryz.results12, go_sem, r0, r1, r2, r3, r4, r5, r6, r7]) rfl HD.out
  · go_simp
    refine X.out.mono ?_
    rintro e w18 ⟨A2, k2, c2, rfl, hE2, hI, hF⟩
    have HM18 := Lib.hid (HM9.out.step hI hF)
    have hl18 := HL9.out.step hF
    obtain ⟨m0, m1, m2, m3, m4⟩ := hl18.facts
    have HE18 := Lib.hid (er_frm' HE9.out hF)
    have hqd := HM9.out.pt.2.1
    have HR18 := Lib.hid (hE2.keep (R' := PtM p (q + 1) w18) (fun _ h => h.mono (by omega)) fun _ _ _ => rfl)
    clear hE2 hI hF hl18 X HM9 HL9 HE9 l0 l1 l2 l3 l4
    go_wp2_with fail
    refine hK.out _ _ (Lib.hid trivial) (fun _ => ?_)
    clear hK K
    try simp only [Act.put, List.setIfInBounds_toArray, List.set_cons_zero, List.set_cons_succ]
    refine wpAnyH_ready (rs := [0]) (by as_aux_lemma => kernel_rfl) (List.cons_ne_nil _ _) ?_
    refine AllReadyH.cons (o := { dst := some 97, op := Go.Op.load 67 (Go.Operand.tmp 8), type := 67, pos := "outright.go:143", after := #[], guard := none }) rfl (fun K hK => ?_) AllReadyH.nil
    go_simp
    refine hK.out _ _ (Lib.hid trivial) (fun _ => ?_)
    clear hK K
    try simp only [Act.put, List.setIfInBounds_toArray, List.set_cons_zero, List.set_cons_succ]
    have hFa := FrM.al w18 (.cells #[.int .i64 rr.1.ex.kind, .int .i64 rr.1.ex.op, .int .i64 rr.1.ex.num, .string (S3.B rr.1.ex.name), .slice Al kl cl, .int .i64 ss.1.ex.kind, .int .i64 ss.1.ex.op, .int .i64 ss.1.ex.num, .string (S3.B ss.1.ex.name), .slice A2 k2 c2] 67) HM18.out.p_lt
    have hMa := HM18.out.al (.cells #[.int .i64 rr.1.ex.kind, .int .i64 rr.1.ex.op, .int .i64 rr.1.ex.num, .string (S3.B rr.1.ex.name), .slice Al kl cl, .int .i64 ss.1.ex.kind, .int .i64 ss.1.ex.op, .int .i64 ss.1.ex.num, .string (S3.B ss.1.ex.name), .slice A2 k2 c2] 67)
    have hEa : S3.ER (w18.alloc (.cells #[.int .i64 rr.1.ex.kind, .int .i64 rr.1.ex.op, .int .i64 rr.1.ex.num, .string (S3.B rr.1.ex.name), .slice Al kl cl, .int .i64 ss.1.ex.kind, .int .i64 ss.1.ex.op, .int .i64 ss.1.ex.num, .string (S3.B ss.1.ex.name), .slice A2 k2 c2] 67)) (PtM p (q + 1) (w18.alloc (.cells #[.int .i64 rr.1.ex.kind, .int .i64 rr.1.ex.op, .int .i64 rr.1.ex.num, .string (S3.B rr.1.ex.name), .slice Al kl cl, .int .i64 ss.1.ex.kind, .int .i64 ss.1.ex.op, .int .i64 ss.1.ex.num, .string (S3.B ss.1.ex.name), .slice A2 k2 c2] 67))) [rr.1.ex, ss.1.ex] (.slice (some ⟨w18.heap.size, 0, none⟩) 2 2) :=
      erM_two (R := PtM p (q + 1) w18) (fun x hx => hx.mv hFa) (fun x hx => hx.2.1) (PtM.new HM18.out.mki _ HM18.out.pt.2.1) hok hok2 HE18.out HR18.out 67 _ rfl 2
    have z5 := hMa.froz (i := 5)
    obtain ⟨g0, g1, g2, g3, g4, g5, g6, g7⟩ := hMa.facts
    have hqm := hMa.pt.2.1
    have HM20 := Lib.hid (hMa.set5 (.slice (some ⟨w18.heap.size, 0, none⟩) 2 2))
    have HE := Lib.hid (hMa.er (i := 5) (u := (.slice (some ⟨w18.heap.size, 0, none⟩) 2 2)) hEa)
    have hz20 : ((w18.alloc (.cells #[.int .i64 rr.1.ex.kind, .int .i64 rr.1.ex.op, .int .i64 rr.1.ex.num, .string (S3.B rr.1.ex.name), .slice Al kl cl, .int .i64 ss.1.ex.kind, .int .i64 ss.1.ex.op, .int .i64 ss.1.ex.num, .string (S3.B ss.1.ex.name), .slice A2 k2 c2] 67)).setCell ⟨q, 5, none⟩ (.slice (some ⟨w18.heap.size, 0, none⟩) 2 2)).heap.size = w18.heap.size + 1 := by rw [← S3.sz1 w18 (.cells #[.int .i64 rr.1.ex.kind, .int .i64 rr.1.ex.op, .int .i64 rr.1.ex.num, .string (S3.B rr.1.ex.name), .slice Al kl cl, .int .i64 ss.1.ex.kind, .int .i64 ss.1.ex.op, .int .i64 ss.1.ex.num, .string (S3.B ss.1.ex.name), .slice A2 k2 c2] 67)]; simp [World.setCell]
    clear hFa hMa hEa HM18 HE18 HR18
    refine wpAnyH_ready (rs := [3]) (by as_aux_lemma => kernel_rfl) (List.cons_ne_nil _ _) ?_
    refine AllReadyH.cons (o := { dst := some 100, op := Go.Op.buildSlice 24 2 #[(0, Go.Operand.tmp 97), (1, Go.Operand.tmp 99)], type := 24, pos := "outright.go:143", after := #[{ on := 0, ground := Go.Ground.data }, { on := 2, ground := Go.Ground.data }], guard := none }) rfl (fun K hK => ?_) AllReadyH.nil
    go_simp
    refine hK.out _ _ (Lib.hid trivial) (fun hHeld2 => ?_)
    clear hK K hHeld
    have hHeld := hHeld2
    clear hHeld2
    try simp only [Act.put, List.setIfInBounds_toArray, List.set_cons_zero, List.set_cons_succ]
    refine wpAnyH_ready (rs := [4]) (by as_aux_lemma => kernel_rfl) (List.cons_ne_nil _ _) ?_
    refine AllReadyH.cons (o := { dst := some 101, op := Go.Op.fieldAddr 27 (Go.Operand.tmp 6) 5, type := 0, pos := "outright.go:143", after := #[{ on := 0, ground := Go.Ground.phase }, { on := 1, ground := Go.Ground.phase }, { on := 2, ground := Go.Ground.phase }, { on := 3, ground := Go.Ground.phase }], guard := none }) rfl (fun K hK => ?_) AllReadyH.nil
    go_simp
    refine hK.out _ _ (Lib.hid trivial) (fun _ => ?_)
    clear hK K
    try simp only [Act.put, List.setIfInBounds_toArray, List.set_cons_zero, List.set_cons_succ]
    refine wpAnyH_ready (rs := [5]) (by as_aux_lemma => kernel_rfl) (List.cons_ne_nil _ _) ?_
    refine AllReadyH.cons (o := { dst := none, op := Go.Op.store 24 (Go.Operand.tmp 101) (Go.Operand.tmp 100), type := 0, pos := "outright.go:143", after := #[{ on := 4, ground := Go.Ground.data }, { on := 3, ground := Go.Ground.data }, { on := 2, ground := Go.Ground.chain }, { on := 0, ground := Go.Ground.phase }, { on := 1, ground := Go.Ground.phase }, { on := 2, ground := Go.Ground.phase }, { on := 3, ground := Go.Ground.phase }], guard := none }) rfl (fun K hK => ?_) AllReadyH.nil
    go_wp2_with fail
    refine hK.out _ _ (Lib.hid trivial) (fun _ => ?_)
    clear hK K
    try simp only [Act.put, List.setIfInBounds_toArray, List.set_cons_zero, List.set_cons_succ]
    refine wpAnyH_done (by kernel_rfl) ?_ _
    refine NoPanic.normal ?_
    go_wp2_with fail
    have hS : StrL (((w18.alloc (.cells #[.int .i64 rr.1.ex.kind, .int .i64 rr.1.ex.op, .int .i64 rr.1.ex.num, .string (S3.B rr.1.ex.name), .slice Al kl cl, .int .i64 ss.1.ex.kind, .int .i64 ss.1.ex.op, .int .i64 ss.1.ex.num, .string (S3.B ss.1.ex.name), .slice A2 k2 c2] 67)).setCell ⟨q, 5, none⟩ (.slice (some ⟨w18.heap.size, 0, none⟩) 2 2)).alloc (.cells #[.string ⟨#[59]⟩] 9)) (((w18.alloc (.cells #[.int .i64 rr.1.ex.kind, .int .i64 rr.1.ex.op, .int .i64 rr.1.ex.num, .string (S3.B rr.1.ex.name), .slice Al kl cl, .int .i64 ss.1.ex.kind, .int .i64 ss.1.ex.op, .int .i64 ss.1.ex.num, .string (S3.B ss.1.ex.name), .slice A2 k2 c2] 67)).setCell ⟨q, 5, none⟩ (.slice (some ⟨w18.heap.size, 0, none⟩) 2 2)).alloc (.cells #[.string ⟨#[59]⟩] 9)).heap.size (.slice (some ⟨((w18.alloc (.cells #[.int .i64 rr.1.ex.kind, .int .i64 rr.1.ex.op, .int .i64 rr.1.ex.num, .string (S3.B rr.1.ex.name), .slice Al kl cl, .int .i64 ss.1.ex.kind, .int .i64 ss.1.ex.op, .int .i64 ss.1.ex.num, .string (S3.B ss.1.ex.name), .slice A2 k2 c2] 67)).setCell ⟨q, 5, none⟩ (.slice (some ⟨w18.heap.size, 0, none⟩) 2 2)).heap.size, 0, none⟩) 1 1) [[59]] := strL_new ((w18.alloc (.cells #[.int .i64 rr.1.ex.kind, .int .i64 rr.1.ex.op, .int .i64 rr.1.ex.num, .string (S3.B rr.1.ex.name), .slice Al kl cl, .int .i64 ss.1.ex.kind, .int .i64 ss.1.ex.op, .int .i64 ss.1.ex.num, .string (S3.B ss.1.ex.name), .slice A2 k2 c2] 67)).setCell ⟨q, 5, none⟩ (.slice (some ⟨w18.heap.size, 0, none⟩) 2 2)) [[59]] 9 rfl
    have D := addM (HM20.out.mki.al (.cells #[.string ⟨#[59]⟩] 9)) hS (by simp) (by simp at hlen ⊢; omega)
    rw [show List.map wtk [[59]] = [tSemi] by decide +kernel] at D
    rw [hz20] at D
    have D := Lib.hid D
    have HX := Lib.hid (HM20.out.al (.cells #[.string ⟨#[59]⟩] 9))
    have hpx := HM20.out.p_lt
    refine D.out.mono ?_
    rintro E w21 ⟨rfl, hI, hF⟩
    have HM21 := Lib.hid (HX.out.step hI hF)
    have HE := Lib.hid (er_frm' HE.out ((FrM.al _ _ hpx).trans hF))
    clear hS D HX hpx hI hF HM20 hz20
    obtain ⟨g0, g1, g2, g3, g4, g5, g6, g7⟩ := HM21.out.facts
    have hqm := HM21.out.pt.2.1
    obtain ⟨z0, z1, z2, z3, z4, z5, z6, z7, r0, r1, r2, r3, r4, r5, r6, r7, y0, y1, y2, y3, y4, y5, y6, y7⟩ := HM21.out.r8.facts
    have hq1 := HM21.out.r8.lt
    have HD := Lib.hid ((HM21.out.cast (out' := out ++ ((1, (nmW (hdB r))) :: (4, [91]) :: (rr.1.tk ++ (4, [93]) :: tEq :: (ss.1.tk ++ [tSemi])))) (by first | rfl | simp only [List.append_assoc, List.cons_append, List.nil_append])).done (s := sStore (nmW (hdB r)) rr.1.ex ss.1.ex) ⟨⟨okI_n (k := 3) ⟨by decide, by decide⟩, okI_n (k := 0) ⟨by decide, by decide⟩, okI_n (k := 0) ⟨by decide, by decide⟩, nmW_le _, by simp⟩, HE.out, S3.SR.nil none 0, S3.SR.nil none 0⟩ (.int .i64 3) (.int .i64 0) (.string (B (nmW (hdB r)))) (.int .i64 0) (.string ⟨#[]⟩) (.slice (some ⟨w18.heap.size, 0, none⟩) 2 2) (.slice none 0 0) (.slice none 0 0))
    clear HM21
    go_wp2_with fail
    exact bodyPost_ret (v := S3.sV (sStore (nmW (hdB r)) rr.1.ex ss.1.ex) (.slice (some ⟨w18.heap.size, 0, none⟩) 2 2) (.slice none 0 0) (.slice none 0 0)) (by simp [results, Tryz.results12, go_sem, r0, r1, r2, r3, r4, r5, r6, r7]) rfl HD.out
end Go.Proofs.YtipepljmfgjbpaaGreatDoor.E6

namespace Go.Proofs.YtipepljmfgjbpaaGreatDoor.E6
open Go Go.RowKit Go.Proofs.YtipepljmfgjbpaaGreatDoor Go.Proofs.YtipepljmfgjbpaaGreatDoor.E5

set_option maxRecDepth 100000 in
set_option maxHeartbeats 8000000 in
theorem stM_prx9 {W : World} {p M lf : Nat} {all cs : List Nat} {out : TL} (h : MkI W p M all cs ((lf : Int) + 1) out) (hlf : lf ≤ 1000) (deep : Int) (hdz : deep ≤ 0) (hk : hdB cs % 10 = 8) (hlen : out.length + ((3, wPrint) :: ((mkT 2 (tlB cs)).1.tk ++ [tSemi])).length ≤ 1000000) :
    Calls Tryz.prog 12 #[mpt p, .int .i64 deep] W (StP W p M all out ⟨sPrint (mkT 2 (tlB cs)).1.ex, (3, wPrint) :: ((mkT 2 (tlB cs)).1.tk ++ [tSemi]), lf, (mkT 2 (tlB cs)).2⟩) := by
  have hp := h.p_lt
  have hby := h.byt.tl
  have h256 := h.byt.hd
  have H0 := Lib.hid h
  have C := Lib.hid (byteM (h.al sZ))
  have hwl : IntKind.i64.wrap (lf : Int) = (lf : Int) := IntWalk.i64_in _ (by omega)
  have qk : (hdB cs : Int) % 10 = 8 := by omega
  clear h
  generalize hb : hdB cs = b at *
  generalize hr : tlB cs = r at *
  go_enter Tryz.func12, Tryz.ntmps12
  try simp only [List.append_eq, List.cons_append, List.nil_append]
  go_wp2_with fail
  refine C.out.mono ?_
  rintro E w1 ⟨rfl, hI, hF⟩
  have HM1 := Lib.hid (MidS.start (lf := (lf : Int)) H0.out hI hF 9)
  have hz2 : ((w1.setCell ⟨p, 2, none⟩ (.int .i64 (lf : Int))).alloc (sK 9)).heap.size = w1.heap.size + 1 := by rw [S3.sz1]; simp [World.setCell]
  have hp1 := hI.p_lt
  have hq2 : w1.heap.size < ((w1.setCell ⟨p, 2, none⟩ (.int .i64 (lf : Int))).alloc (sK 9)).heap.size := by rw [hz2]; omega
  obtain ⟨j0, j1, j2, j3⟩ : w1.cell? ⟨p, 0, none⟩ = w1.cell? ⟨p, 0, none⟩ ∧ True ∧ w1.cell? ⟨p, 2, none⟩ = some (.int .i64 ((lf : Int) + 1)) ∧ w1.frozen? ⟨p, 2, none⟩ = false := by
    obtain ⟨⟨_, _, _, _, _, _, h4, _⟩, _⟩ := hI
    exact ⟨rfl, trivial, (mk_row h4).2.2.1, mk_froz h4⟩
  have zf := HM1.out.froz (i := 0)
  have HM2 := Lib.hid (MidS.start (lf := (lf : Int)) H0.out hI hF 6)
  have hz6 : ((w1.setCell ⟨p, 2, none⟩ (.int .i64 (lf : Int))).alloc (sK 6)).heap.size = w1.heap.size + 1 := by rw [S3.sz1]; simp [World.setCell]
  clear j0 j1 hI hF C H0
  obtain ⟨g0, g1, g2, g3, g4, g5, g6, g7⟩ := HM1.out.facts
  go_wp2_with fail
  generalize w1.heap.size = q at *
  generalize (w1.setCell ⟨p, 2, none⟩ (.int .i64 (lf : Int))).alloc (sK 6) = w2 at *
  clear HM1 g0 g1 g2 g3 g4 g5 g6 g7 zf
  have hS : StrL (w2.alloc (.cells #[.string ⟨#[112, 114, 105, 110, 116]⟩] 9)) (w2.alloc (.cells #[.string ⟨#[112, 114, 105, 110, 116]⟩] 9)).heap.size (.slice (some ⟨w2.heap.size, 0, none⟩) 1 1) [[112, 114, 105, 110, 116]] := strL_new w2 [[112, 114, 105, 110, 116]] 9 rfl
  have D := addM (HM2.out.mki.al (.cells #[.string ⟨#[112, 114, 105, 110, 116]⟩] 9)) hS (by simp) (by first | omega | (simp; omega) | (simp at hlen ⊢; omega))
  rw [show List.map wtk [[112, 114, 105, 110, 116]] = [(3, wPrint)] by decide +kernel] at D
  rw [hz6] at D
  have D := Lib.hid D
  have HX := Lib.hid (HM2.out.al (.cells #[.string ⟨#[112, 114, 105, 110, 116]⟩] 9))
  have hpx := HM2.out.p_lt
  refine D.out.mono ?_
  rintro E w3 ⟨rfl, hI, hF⟩
  have HM3 := Lib.hid (HX.out.step hI hF)
  clear hS D HX hpx hI hF HM2 hz6
  have X := exprM_all 2 (by omega) false w3 p M all _ _ _ HM3.out.mki (by first | (rw [tokT_false]; simp at hlen ⊢; omega) | (rw [tokT_false]; simp; omega))
  rw [show ((2 : Nat) : Int) + 1 = 3 from rfl, tokT_false] at X
  have hok := tr_okE6 (mkT_ok 2 r (by first | exact hby | exact hby.tl | exact hby.tl.tl)).1
  generalize hrr : mkT 2 r = rr at *
  have X := Lib.hid X
  have hqx : q < w3.heap.size := HM3.out.pt.2.1
  obtain ⟨g0, g1, g2, g3, g4, g5, g6, g7⟩ := HM3.out.facts
  have hqn := HM3.out.pt.2.1
  go_wp2_with fail
  refine X.out.mono ?_
  rintro E w4 ⟨A, kk, c, rfl, hEr, hI, hF⟩
  have hM4 := HM3.out.step hI hF
  have z5 := hM4.froz (i := 5)
  obtain ⟨g0, g1, g2, g3, g4, g5, g6, g7⟩ := hM4.facts
  have hqm := hM4.pt.2.1
  obtain ⟨i1, i2, hz5⟩ := hM4.one hEr hqx hok
  have HM5 := Lib.hid i1
  have HE := Lib.hid i2
  clear hI hF hEr hok X i1 i2 HM3 hM4
  go_wp2_with fail
  generalize (w4.setCell ⟨q, 5, none⟩ (.slice (some ⟨w4.heap.size, 0, none⟩) 1 1)).alloc (S3.eO rr.1.ex (.slice A kk c)) = w5 at *
  have hS : StrL (w5.alloc (.cells #[.string ⟨#[59]⟩] 9)) (w5.alloc (.cells #[.string ⟨#[59]⟩] 9)).heap.size (.slice (some ⟨w5.heap.size, 0, none⟩) 1 1) [[59]] := strL_new w5 [[59]] 9 rfl
  have D := addM (HM5.out.mki.al (.cells #[.string ⟨#[59]⟩] 9)) hS (by simp) (by first | omega | (simp; omega) | (simp at hlen ⊢; omega))
  rw [show List.map wtk [[59]] = [tSemi] by decide +kernel] at D
  rw [hz5] at D
  have D := Lib.hid D
  have HX := Lib.hid (HM5.out.al (.cells #[.string ⟨#[59]⟩] 9))
  have hpx := HM5.out.p_lt
  refine D.out.mono ?_
  rintro E w6 ⟨rfl, hI, hF⟩
  have HM6 := Lib.hid (HX.out.step hI hF)
  have HE := Lib.hid (er_frm' HE.out ((FrM.al _ _ hpx).trans hF))
  clear hS D HX hpx hI hF HM5 hz5
  obtain ⟨g0, g1, g2, g3, g4, g5, g6, g7⟩ := HM6.out.facts
  have hqm := HM6.out.pt.2.1
  obtain ⟨z0, z1, z2, z3, z4, z5, z6, z7, r0, r1, r2, r3, r4, r5, r6, r7, y0, y1, y2, y3, y4, y5, y6, y7⟩ := HM6.out.r8.facts
  have hq1 := HM6.out.r8.lt
  have HD := Lib.hid ((HM6.out.cast (out' := out ++ ((3, wPrint) :: (rr.1.tk ++ [tSemi]))) (by first | rfl | simp only [List.append_assoc, List.cons_append, List.nil_append])).done (s := sPrint rr.1.ex) ⟨⟨okI_n (k := 6) ⟨by decide, by decide⟩, okI_n (k := 0) ⟨by decide, by decide⟩, okI_n (k := 0) ⟨by decide, by decide⟩, by simp, by simp⟩, HE.out, S3.SR.nil none 0, S3.SR.nil none 0⟩ (.int .i64 6) (.int .i64 0) (.string ⟨#[]⟩) (.int .i64 0) (.string ⟨#[]⟩) (.slice (some ⟨w4.heap.size, 0, none⟩) 1 1) (.slice none 0 0) (.slice none 0 0))
  clear HM6
  go_wp2_with fail
  exact bodyPost_ret (v := S3.sV (sPrint rr.1.ex) (.slice (some ⟨w4.heap.size, 0, none⟩) 1 1) (.slice none 0 0) (.slice none 0 0)) (by simp [results, Tryz.results12, go_sem, r0, r1, r2, r3, r4, r5, r6, r7]) rfl HD.out
set_option maxRecDepth 100000 in
set_option maxHeartbeats 8000000 in
theorem stM_prx10 {W : World} {p M lf : Nat} {all cs : List Nat} {out : TL} (h : MkI W p M all cs ((lf : Int) + 1) out) (hlf : lf ≤ 1000) (deep : Int) (hdz : deep ≤ 0) (hk : hdB cs % 10 = 9) (hlen : out.length + ((3, wPrint) :: ((mkT 2 (tlB cs)).1.tk ++ [tSemi])).length ≤ 1000000) :
    Calls Tryz.prog 12 #[mpt p, .int .i64 deep] W (StP W p M all out ⟨sPrint (mkT 2 (tlB cs)).1.ex, (3, wPrint) :: ((mkT 2 (tlB cs)).1.tk ++ [tSemi]), lf, (mkT 2 (tlB cs)).2⟩) := by
  have hp := h.p_lt
  have hby := h.byt.tl
  have h256 := h.byt.hd
  have H0 := Lib.hid h
  have C := Lib.hid (byteM (h.al sZ))
  have hwl : IntKind.i64.wrap (lf : Int) = (lf : Int) := IntWalk.i64_in _ (by omega)
  have qk : (hdB cs : Int) % 10 = 9 := by omega
  clear h
  generalize hb : hdB cs = b at *
  generalize hr : tlB cs = r at *
  go_enter Tryz.func12, Tryz.ntmps12
  try simp only [List.append_eq, List.cons_append, List.nil_append]
  go_wp2_with fail
  refine C.out.mono ?_
  rintro E w1 ⟨rfl, hI, hF⟩
  have HM1 := Lib.hid (MidS.start (lf := (lf : Int)) H0.out hI hF 10)
  have hz2 : ((w1.setCell ⟨p, 2, none⟩ (.int .i64 (lf : Int))).alloc (sK 10)).heap.size = w1.heap.size + 1 := by rw [S3.sz1]; simp [World.setCell]
  have hp1 := hI.p_lt
  have hq2 : w1.heap.size < ((w1.setCell ⟨p, 2, none⟩ (.int .i64 (lf : Int))).alloc (sK 10)).heap.size := by rw [hz2]; omega
  obtain ⟨j0, j1, j2, j3⟩ : w1.cell? ⟨p, 0, none⟩ = w1.cell? ⟨p, 0, none⟩ ∧ True ∧ w1.cell? ⟨p, 2, none⟩ = some (.int .i64 ((lf : Int) + 1)) ∧ w1.frozen? ⟨p, 2, none⟩ = false := by
    obtain ⟨⟨_, _, _, _, _, _, h4, _⟩, _⟩ := hI
    exact ⟨rfl, trivial, (mk_row h4).2.2.1, mk_froz h4⟩
  have zf := HM1.out.froz (i := 0)
  have HM2 := Lib.hid (MidS.start (lf := (lf : Int)) H0.out hI hF 6)
  have hz6 : ((w1.setCell ⟨p, 2, none⟩ (.int .i64 (lf : Int))).alloc (sK 6)).heap.size = w1.heap.size + 1 := by rw [S3.sz1]; simp [World.setCell]
  clear j0 j1 hI hF C H0
  obtain ⟨g0, g1, g2, g3, g4, g5, g6, g7⟩ := HM1.out.facts
  go_wp2_with fail
  generalize w1.heap.size = q at *
  generalize (w1.setCell ⟨p, 2, none⟩ (.int .i64 (lf : Int))).alloc (sK 6) = w2 at *
  clear HM1 g0 g1 g2 g3 g4 g5 g6 g7 zf
  have hS : StrL (w2.alloc (.cells #[.string ⟨#[112, 114, 105, 110, 116]⟩] 9)) (w2.alloc (.cells #[.string ⟨#[112, 114, 105, 110, 116]⟩] 9)).heap.size (.slice (some ⟨w2.heap.size, 0, none⟩) 1 1) [[112, 114, 105, 110, 116]] := strL_new w2 [[112, 114, 105, 110, 116]] 9 rfl
  have D := addM (HM2.out.mki.al (.cells #[.string ⟨#[112, 114, 105, 110, 116]⟩] 9)) hS (by simp) (by first | omega | (simp; omega) | (simp at hlen ⊢; omega))
  rw [show List.map wtk [[112, 114, 105, 110, 116]] = [(3, wPrint)] by decide +kernel] at D
  rw [hz6] at D
  have D := Lib.hid D
  have HX := Lib.hid (HM2.out.al (.cells #[.string ⟨#[112, 114, 105, 110, 116]⟩] 9))
  have hpx := HM2.out.p_lt
  refine D.out.mono ?_
  rintro E w3 ⟨rfl, hI, hF⟩
  have HM3 := Lib.hid (HX.out.step hI hF)
  clear hS D HX hpx hI hF HM2 hz6
  have X := exprM_all 2 (by omega) false w3 p M all _ _ _ HM3.out.mki (by first | (rw [tokT_false]; simp at hlen ⊢; omega) | (rw [tokT_false]; simp; omega))
  rw [show ((2 : Nat) : Int) + 1 = 3 from rfl, tokT_false] at X
  have hok := tr_okE6 (mkT_ok 2 r (by first | exact hby | exact hby.tl | exact hby.tl.tl)).1
  generalize hrr : mkT 2 r = rr at *
  have X := Lib.hid X
  have hqx : q < w3.heap.size := HM3.out.pt.2.1
  obtain ⟨g0, g1, g2, g3, g4, g5, g6, g7⟩ := HM3.out.facts
  have hqn := HM3.out.pt.2.1
  go_wp2_with fail
  refine X.out.mono ?_
  rintro E w4 ⟨A, kk, c, rfl, hEr, hI, hF⟩
  have hM4 := HM3.out.step hI hF
  have z5 := hM4.froz (i := 5)
  obtain ⟨g0, g1, g2, g3, g4, g5, g6, g7⟩ := hM4.facts
  have hqm := hM4.pt.2.1
  obtain ⟨i1, i2, hz5⟩ := hM4.one hEr hqx hok
  have HM5 := Lib.hid i1
  have HE := Lib.hid i2
  clear hI hF hEr hok X i1 i2 HM3 hM4
  go_wp2_with fail
  generalize (w4.setCell ⟨q, 5, none⟩ (.slice (some ⟨w4.heap.size, 0, none⟩) 1 1)).alloc (S3.eO rr.1.ex (.slice A kk c)) = w5 at *
  have hS : StrL (w5.alloc (.cells #[.string ⟨#[59]⟩] 9)) (w5.alloc (.cells #[.string ⟨#[59]⟩] 9)).heap.size (.slice (some ⟨w5.heap.size, 0, none⟩) 1 1) [[59]] := strL_new w5 [[59]] 9 rfl
  have D := addM (HM5.out.mki.al (.cells #[.string ⟨#[59]⟩] 9)) hS (by simp) (by first | omega | (simp; omega) | (simp at hlen ⊢; omega))
  rw [show List.map wtk [[59]] = [tSemi] by decide +kernel] at D
  rw [hz5] at D
  have D := Lib.hid D
  have HX := Lib.hid (HM5.out.al (.cells #[.string ⟨#[59]⟩] 9))
  have hpx := HM5.out.p_lt
  refine D.out.mono ?_
  rintro E w6 ⟨rfl, hI, hF⟩
  have HM6 := Lib.hid (HX.out.step hI hF)
  have HE := Lib.hid (er_frm' HE.out ((FrM.al _ _ hpx).trans hF))
  clear hS D HX hpx hI hF HM5 hz5
  obtain ⟨g0, g1, g2, g3, g4, g5, g6, g7⟩ := HM6.out.facts
  have hqm := HM6.out.pt.2.1
  obtain ⟨z0, z1, z2, z3, z4, z5, z6, z7, r0, r1, r2, r3, r4, r5, r6, r7, y0, y1, y2, y3, y4, y5, y6, y7⟩ := HM6.out.r8.facts
  have hq1 := HM6.out.r8.lt
  have HD := Lib.hid ((HM6.out.cast (out' := out ++ ((3, wPrint) :: (rr.1.tk ++ [tSemi]))) (by first | rfl | simp only [List.append_assoc, List.cons_append, List.nil_append])).done (s := sPrint rr.1.ex) ⟨⟨okI_n (k := 6) ⟨by decide, by decide⟩, okI_n (k := 0) ⟨by decide, by decide⟩, okI_n (k := 0) ⟨by decide, by decide⟩, by simp, by simp⟩, HE.out, S3.SR.nil none 0, S3.SR.nil none 0⟩ (.int .i64 6) (.int .i64 0) (.string ⟨#[]⟩) (.int .i64 0) (.string ⟨#[]⟩) (.slice (some ⟨w4.heap.size, 0, none⟩) 1 1) (.slice none 0 0) (.slice none 0 0))
  clear HM6
  go_wp2_with fail
  exact bodyPost_ret (v := S3.sV (sPrint rr.1.ex) (.slice (some ⟨w4.heap.size, 0, none⟩) 1 1) (.slice none 0 0) (.slice none 0 0)) (by simp [results, Tryz.results12, go_sem, r0, r1, r2, r3, r4, r5, r6, r7]) rfl HD.out
end Go.Proofs.YtipepljmfgjbpaaGreatDoor.E6

namespace Go.Proofs.YtipepljmfgjbpaaGreatDoor.E6
open Go Go.RowKit Go.Proofs.YtipepljmfgjbpaaGreatDoor Go.Proofs.YtipepljmfgjbpaaGreatDoor.E5

theorem stM_sim {W : World} {p M lf : Nat} {all cs : List Nat} {out : TL} (h : MkI W p M all cs ((lf : Int) + 1) out) (hlf : lf ≤ 1000) (deep : Int) (hk : hdB cs % 10 ≤ 7) (hlen : out.length + (mkSim (1 + hdB cs % 10) (hdB cs) lf (tlB cs)).tk.length ≤ 1000000) :
    Calls Tryz.prog 12 #[mpt p, .int .i64 deep] W (StP W p M all out (mkSim (1 + hdB cs % 10) (hdB cs) lf (tlB cs))) := by
  have hc : hdB cs % 10 = 0 ∨ hdB cs % 10 = 1 ∨ hdB cs % 10 = 2 ∨ hdB cs % 10 = 3 ∨ hdB cs % 10 = 4 ∨ hdB cs % 10 = 5 ∨ hdB cs % 10 = 6 ∨ hdB cs % 10 = 7 := by omega
  rcases hc with e | e | e | e | e | e | e | e <;> rw [e] at hlen ⊢
  · by_cases hm : 128 ≤ hdB cs
    · rw [show mkSim (1 + 0) (hdB cs) lf (tlB cs) = _ from if_pos hm] at hlen ⊢
      by_cases hd : deep ≤ 0
      · exact stM_var11 h hlf deep hd e hm hlen
      · exact stM_var01 h hlf deep hd e hm hlen
    · rw [show mkSim (1 + 0) (hdB cs) lf (tlB cs) = _ from if_neg hm] at hlen ⊢
      by_cases hd : deep ≤ 0
      · exact stM_var10 h hlf deep hd e hm hlen
      · exact stM_var00 h hlf deep hd e hm hlen
  · by_cases hd : deep ≤ 0
    · exact stM_set1 h hlf deep hd e hlen
    · exact stM_set0 h hlf deep hd e hlen
  · by_cases hd : deep ≤ 0
    · exact stM_store1 h hlf deep hd e hlen
    · exact stM_store0 h hlf deep hd e hlen
  · by_cases hd : deep ≤ 0
    · exact stM_new1 h hlf deep hd e hlen
    · exact stM_new0 h hlf deep hd e hlen
  · by_cases hd : deep ≤ 0
    · exact stM_read1 h hlf deep hd e hlen
    · exact stM_read0 h hlf deep hd e hlen
  · by_cases hd : deep ≤ 0
    · exact stM_print1 h hlf deep hd e hlen
    · exact stM_print0 h hlf deep hd e hlen
  · by_cases hm : 128 ≤ hdB cs
    · rw [show mkSim (1 + 6) (hdB cs) lf (tlB cs) = _ from if_pos hm] at hlen ⊢
      by_cases hd : deep ≤ 0
      · exact stM_call11 h hlf deep hd e hm hlen
      · exact stM_call01 h hlf deep hd e hm hlen
    · rw [show mkSim (1 + 6) (hdB cs) lf (tlB cs) = _ from if_neg hm] at hlen ⊢
      by_cases hd : deep ≤ 0
      · exact stM_call10 h hlf deep hd e hm hlen
      · exact stM_call00 h hlf deep hd e hm hlen
  · by_cases hm : 128 ≤ hdB cs
    · rw [show mkSim (1 + 7) (hdB cs) lf (tlB cs) = _ from if_pos hm] at hlen ⊢
      by_cases hd : deep ≤ 0
      · exact stM_ret11 h hlf deep hd e hm hlen
      · exact stM_ret01 h hlf deep hd e hm hlen
    · rw [show mkSim (1 + 7) (hdB cs) lf (tlB cs) = _ from if_neg hm] at hlen ⊢
      by_cases hd : deep ≤ 0
      · exact stM_ret10 h hlf deep hd e hm hlen
      · exact stM_ret00 h hlf deep hd e hm hlen
/-- stmt: what the maker gives, with blocks at most a hundred deep. -/
theorem stmtM_all : ∀ n, n ≤ 100 → StC n := by
  intro n
  induction n with
  | zero =>
    intro _ W p M all cs left out h h1 hl hlen
    obtain ⟨lf, rfl⟩ : ∃ lf, left = lf + 1 := ⟨left - 1, by omega⟩
    rw [show (((lf + 1 : Nat)) : Int) = (lf : Int) + 1 from rfl] at h
    by_cases hk : hdB cs % 10 ≤ 7
    · have e : mkS 0 (lf + 1) cs = mkSim (1 + hdB cs % 10) (hdB cs) lf (tlB cs) := by
        rw [mkS, kindM, if_neg (by omega), Nat.add_sub_cancel]
      rw [e] at hlen ⊢
      exact stM_sim h (by omega) _ hk hlen
    · have e : mkS 0 (lf + 1) cs = mkSim 6 (hdB cs) lf (tlB cs) := by
        rw [mkS, kindM, if_pos (by omega), Nat.add_sub_cancel]
      rw [e] at hlen ⊢
      by_cases h8 : hdB cs % 10 = 8
      · exact stM_prx9 h (by omega) _ (by decide) h8 hlen
      · exact stM_prx10 h (by omega) _ (by decide) (by omega) hlen
  | succ n ih =>
    intro hn W p M all cs left out h h1 hl hlen
    obtain ⟨lf, rfl⟩ : ∃ lf, left = lf + 1 := ⟨left - 1, by omega⟩
    rw [show (((lf + 1 : Nat)) : Int) = (lf : Int) + 1 from rfl] at h
    have hkm : kindM (n + 1) (hdB cs) = 1 + hdB cs % 10 := by rw [kindM, if_neg (by omega)]
    by_cases hk : hdB cs % 10 ≤ 7
    · have e : mkS (n + 1) (lf + 1) cs = mkSim (1 + hdB cs % 10) (hdB cs) lf (tlB cs) := by
        rw [mkS, hkm, if_pos (by omega), Nat.add_sub_cancel]
      rw [e] at hlen ⊢
      exact stM_sim h (by omega) _ hk hlen
    · have e : mkS (n + 1) (lf + 1) cs = mkBr (mkS n) (1 + hdB cs % 10) (hdB cs) lf (tlB cs) := by
        rw [mkS, hkm, if_neg (by omega), Nat.add_sub_cancel]
      rw [e] at hlen ⊢
      rw [show (((n + 1 : Nat)) : Int) = (n : Int) + 1 from rfl]
      by_cases h8 : hdB cs % 10 = 8
      · rw [h8] at hlen ⊢
        by_cases hm : 128 ≤ hdB cs
        · rw [show mkBr (mkS n) (1 + 8) (hdB cs) lf (tlB cs) = _ from if_pos hm] at hlen ⊢
          exact stM_if1 h (by omega) n (ih (by omega)) (by omega) h8 hm hlen
        · rw [show mkBr (mkS n) (1 + 8) (hdB cs) lf (tlB cs) = _ from if_neg hm] at hlen ⊢
          exact stM_if0 h (by omega) n (ih (by omega)) (by omega) h8 hm hlen
      · have h9 : hdB cs % 10 = 9 := by omega
        rw [h9] at hlen ⊢
        exact stM_while h (by omega) n (ih (by omega)) (by omega) h9 hlen

end Go.Proofs.YtipepljmfgjbpaaGreatDoor.E6

namespace Go.Proofs.YtipepljmfgjbpaaGreatDoor.E6
open Go Go.RowKit Go.Proofs.YtipepljmfgjbpaaGreatDoor Go.Proofs.YtipepljmfgjbpaaGreatDoor.E5

theorem parT_len (c : Bool) (l : TL) : (parT c l).length ≤ l.length + 2 := by
  cases c <;> simp [parT]
theorem leafT_len (k b : Nat) (r : List Nat) : (leafT k b r).1.tk.length ≤ 4 := by
  unfold leafT
  repeat' split
  all_goals simp [Tr.tk]
theorem mkT_len0 (cs : List Nat) : (mkT 0 cs).1.tk.length ≤ 4 := by rw [mkT]; exact leafT_len _ _ _
theorem mkT_lens {n B : Nat} (h : ∀ cs, (mkT n cs).1.tk.length ≤ B) (cs : List Nat) : (mkT (n + 1) cs).1.tk.length ≤ 2 * B + 5 := by
  rw [mkT]
  split
  · exact Nat.le_trans (leafT_len _ _ _) (by omega)
  split
  · have := h (tlB (tlB cs)); simp only [Tr.tk, List.length_cons, List.length_append, List.length_nil]; omega
  split
  · have h1 := parT_len (mkT n (tlB cs)).1.comp (mkT n (tlB cs)).1.tk; have := h (tlB cs); simp only [Tr.tk, List.length_cons]; omega
  · have h1 := parT_len (mkT n (tlB cs)).1.comp (mkT n (tlB cs)).1.tk; have := h (tlB cs)
    have h2 := parT_len (mkT n (mkT n (tlB cs)).2).1.comp (mkT n (mkT n (tlB cs)).2).1.tk; have := h (mkT n (tlB cs)).2
    simp only [Tr.tk, List.length_cons, List.length_append]; omega
theorem mkT_len1 (cs : List Nat) : (mkT 1 cs).1.tk.length ≤ 13 := mkT_lens mkT_len0 cs
theorem mkT_len2 (cs : List Nat) : (mkT 2 cs).1.tk.length ≤ 31 := mkT_lens mkT_len1 cs
theorem restT_len : ∀ (n : Nat) (cs : List Nat), (restT (mkAs n cs).1).length ≤ 14 * n + 1 := by
  intro n
  induction n with
  | zero => intro cs; simp [mkAs, restT]
  | succ n ih =>
    intro cs
    have h1 := mkT_len1 cs
    have h2 := ih (mkT 1 cs).2
    rw [mkAs]
    cases h : (mkAs n (mkT 1 cs).2).1 with
    | nil => simp only [restT, List.length_append, List.length_cons, List.length_nil]; omega
    | cons t ts => rw [h] at h2; simp only [restT_two, List.length_append, List.length_cons]; omega
theorem mkSim_len (k b left : Nat) (r : List Nat) : (mkSim k b left r).tk.length ≤ 70 := by
  have t1 := mkT_len2 r
  have t2 := mkT_len2 (tlB r)
  have t3 := mkT_len2 (mkT 2 (tlB r)).2
  have t4 := restT_len (hdB (tlB r) % 4) (tlB (tlB r))
  have t5 := restT_len (hdB (tlB (tlB r)) % 4) (tlB (tlB (tlB r)))
  have m1 : hdB (tlB r) % 4 ≤ 3 := by omega
  have m2 : hdB (tlB (tlB r)) % 4 ≤ 3 := by omega
  unfold mkSim argsT
  repeat' split
  all_goals simp only [List.length_cons, List.length_append, List.length_nil]
  all_goals omega
theorem mkBl_tk {f : Nat → List Nat → Mk} {B : Nat} (hf : ∀ left cs, (f left cs).tk.length ≤ B) : ∀ n left cs, (PL.tk (mkBl f n left cs).ps).length ≤ n * B := by
  intro n
  induction n with
  | zero => intro left cs; simp [mkBl, PL.tk]
  | succ n ih =>
    intro left cs
    rw [mkBl]
    split
    · simp [PL.tk]
    · have h1 := hf left cs
      have h2 := ih (f left cs).left (f left cs).cs
      unfold PL.tk at h2 ⊢
      simp only [List.flatMap_cons, List.length_append]
      rw [Nat.succ_mul]; omega
theorem mkBlk_len {f : Nat → List Nat → Mk} {B : Nat} (hf : ∀ left cs, (f left cs).tk.length ≤ B) (left : Nat) (cs : List Nat) : (blkT (mkBlk f left cs).ps).length ≤ 3 * B + 2 := by
  have h1 := mkBl_tk hf (hdB cs % 4) left (tlB cs)
  have h2 : hdB cs % 4 * B ≤ 3 * B := Nat.mul_le_mul_right _ (by omega)
  unfold mkBlk blkT
  simp only [List.length_cons, List.length_append, List.length_nil]; omega
theorem mkBr_len {f : Nat → List Nat → Mk} {B : Nat} (hf : ∀ left cs, (f left cs).tk.length ≤ B) (k b left : Nat) (r : List Nat) : (mkBr f k b left r).tk.length ≤ 6 * B + 40 := by
  have t1 := mkT_len2 r
  have t2 := mkBlk_len hf left (mkT 2 r).2
  have t3 := mkBlk_len hf (mkBlk f left (mkT 2 r).2).left (mkBlk f left (mkT 2 r).2).cs
  unfold mkBr
  repeat' split
  all_goals simp only [List.length_cons, List.length_append]
  all_goals omega
theorem mkS_lens {n B : Nat} (hB : 70 ≤ 6 * B + 40) (hf : ∀ left cs, (mkS n left cs).tk.length ≤ B) (left : Nat) (cs : List Nat) : (mkS (n + 1) left cs).tk.length ≤ 6 * B + 40 := by
  rw [mkS]
  split
  · exact Nat.le_trans (mkSim_len _ _ _ _) hB
  · exact mkBr_len hf _ _ _ _
theorem mkS_len4 (left : Nat) (cs : List Nat) : (mkS 4 left cs).tk.length ≤ 101080 := 
  mkS_lens (n := 3) (B := 16840) (by decide) (mkS_lens (n := 2) (B := 2800) (by decide) (mkS_lens (n := 1) (B := 460) (by decide) (mkS_lens (n := 0) (B := 70) (by decide) fun _ _ => by rw [mkS]; exact mkSim_len _ _ _ _))) left cs

end Go.Proofs.YtipepljmfgjbpaaGreatDoor.E6

namespace Go.Proofs.YtipepljmfgjbpaaGreatDoor.E6
open Go Go.RowKit Go.Proofs.YtipepljmfgjbpaaGreatDoor Go.Proofs.YtipepljmfgjbpaaGreatDoor.E5

/-- What made gives. -/
def MadeP (W : World) (all : List Nat) (r : Mk) (E : Ending) (W' : World) : Prop := ∃ p va vb ve vo, E = .returned (.tuple #[S3.sV r.s va vb ve, vo, .bool true]) ∧ SIs W' (PtM p W.heap.size W') r.s va vb ve ∧ MkI W' p W.heap.size all r.cs (r.left : Int) r.tk ∧ W'.cell? ⟨p, 3, none⟩ = some vo ∧ Below W.heap.size W W'
abbrev mkO (code : Value) : Obj := .cells #[code, .int .i64 0, .int .i64 25, .slice none 0 0] 46
theorem MkI.start {W : World} {code : Value} {all : List Nat} (h : CodL W W.heap.size code all) : MkI ((W.alloc sZ).alloc (mkO code)) (W.heap.size + 1) W.heap.size all all ((25 : Nat) : Int) [] := by
  have hz : (W.alloc sZ).heap.size = W.heap.size + 1 := S3.sz1 _ _
  have hnew := heap_alloc_new (W.alloc sZ) (mkO code)
  rw [hz] at hnew
  refine ⟨⟨code, 0, .slice none 0 0, Nat.zero_le _, rfl, ?_, hnew, S3.GrI.start kA (by rw [S3.sz1, hz]; exact Nat.le_refl _) (fun _ => default)⟩, by omega⟩
  obtain ⟨A, c, h1, h2, h3, h4⟩ := h
  refine ⟨A, c, h1, h2, h3, fun j b hj => ?_⟩
  obtain ⟨g, o, e1, e2, e3⟩ := h4 j b hj
  have e4 := (S3.bal (W.alloc sZ) (mkO code)).cell (p := ⟨g, o + j, none⟩) (show g < _ by rw [hz]; omega)
  have e5 := (S3.bal W sZ).cell (p := ⟨g, o + j, none⟩) (show g < _ by exact e2)
  exact ⟨g, o, e1, e2, e4.trans (e5.trans e3)⟩
theorem FrM.below {W W' : World} {code : Value} (h : FrM (W.heap.size + 1) ((W.alloc sZ).alloc (mkO code)) W') : Below W.heap.size W W' := by
  have hz : (W.alloc sZ).heap.size = W.heap.size + 1 := S3.sz1 _ _
  have hz2 : ((W.alloc sZ).alloc (mkO code)).heap.size = W.heap.size + 2 := by rw [S3.sz1, hz]
  have hb := (S3.bal W sZ).trans ((S3.bal (W.alloc sZ) (mkO code)).mono (by rw [hz]; omega))
  have hnew := heap_alloc_new (W.alloc sZ) (mkO code)
  rw [hz] at hnew
  refine hb.trans ⟨h.os, h.tape, h.output, h.size, fun k hk => h.keep k (by rw [hz2]; omega) (by omega) ?_⟩
  rintro ⟨vo, e1, e2⟩
  rw [(mk_row hnew).2.2.2] at e1
  cases e1
  cases e2
/-- The cells of a statement's value, laid into a block that is no part of the maker. -/
theorem MkI.put8 {wr : World} {p M b : Nat} {all cs : List Nat} {left : Int} {out : TL} (h : MkI wr p M all cs left out) (hb : PtM p M wr b) (a0 a1 a2 a3 a4 a5 a6 a7 : Value) :
    MkI (put8 wr b a0 a1 a2 a3 a4 a5 a6 a7) p M all cs left out ∧ ∀ n c, PtM p n wr c → PtM p n (put8 wr b a0 a1 a2 a3 a4 a5 a6 a7) c := by
  have hne := hb.2.2.1
  have hle := hb.1
  have s := fun (n c i : Nat) (u : Value) (w : World) (hc : PtM p n w c) => PtM.set (i := i) (u := u) hc hne
  have m0 := h.set hb hle 0 a0
  have p0 := s _ _ 0 a0 _ hb
  have m1 := m0.set p0 hle 1 a1
  have p1 := s _ _ 1 a1 _ p0
  have m2 := m1.set p1 hle 2 a2
  have p2 := s _ _ 2 a2 _ p1
  have m3 := m2.set p2 hle 3 a3
  have p3 := s _ _ 3 a3 _ p2
  have m4 := m3.set p3 hle 4 a4
  have p4 := s _ _ 4 a4 _ p3
  have m5 := m4.set p4 hle 5 a5
  have p5 := s _ _ 5 a5 _ p4
  have m6 := m5.set p5 hle 6 a6
  have p6 := s _ _ 6 a6 _ p5
  exact ⟨m6.set p6 hle 7 a7, fun n b hb => s _ _ _ _ _ (s _ _ _ _ _ (s _ _ _ _ _ (s _ _ _ _ _ (s _ _ _ _ _ (s _ _ _ _ _ (s _ _ _ _ _ (s _ _ _ _ _ hb)))))))⟩
/-- The cells of a statement at block q, the maker's tokens. -/
structure RetS (W1 : World) (q p : Nat) (s : St) (va vb ve vo : Value) : Prop where
  c0 : W1.cell? ⟨q, 0, none⟩ = some (.int .i64 s.kind)
  c1 : W1.cell? ⟨q, 1, none⟩ = some (.int .i64 s.no)
  c2 : W1.cell? ⟨q, 2, none⟩ = some (.string (S3.B s.name))
  c3 : W1.cell? ⟨q, 3, none⟩ = some (.int .i64 s.typ)
  c4 : W1.cell? ⟨q, 4, none⟩ = some (.string (S3.B s.callee))
  c5 : W1.cell? ⟨q, 5, none⟩ = some va
  c6 : W1.cell? ⟨q, 6, none⟩ = some vb
  c7 : W1.cell? ⟨q, 7, none⟩ = some ve
  c8 : W1.cell? ⟨p, 3, none⟩ = some vo
/-- In the midst of made: behind the maker's work, the statement laid into a box at q. -/
structure MadeS (W w : World) (p q : Nat) (all : List Nat) (r : Mk) (va vb ve vo : Value) : Prop where
  r8 : R8 w W.heap.size
  pt : PtM p W.heap.size w W.heap.size
  ret : RetS w q p r.s va vb ve vo
  sis : SIs w (PtM p (W.heap.size + 1) w) r.s va vb ve
  mki : MkI w p W.heap.size all r.cs (r.left : Int) r.tk
  bel : Below W.heap.size W w
  hq : W.heap.size < q ∧ q < w.heap.size
theorem MadeS.step {W w w' : World} {p q : Nat} {all : List Nat} {r : Mk} {va vb ve vo : Value} (h : MadeS W w p q all r va vb ve vo) (hb : Below w.heap.size w w') : MadeS W w' p q all r va vb ve vo := by
  have hp := h.mki.p_lt
  have hF := FrM.bel hb hp
  have hq := h.hq.2
  have c := fun (g i : Nat) (hg : g < w.heap.size) => hb.cell (p := ⟨g, i, none⟩) hg
  exact ⟨h.r8.bel hb, h.pt.mv hF, ⟨(c _ _ hq).trans h.ret.c0, (c _ _ hq).trans h.ret.c1, (c _ _ hq).trans h.ret.c2, (c _ _ hq).trans h.ret.c3, (c _ _ hq).trans h.ret.c4, (c _ _ hq).trans h.ret.c5, (c _ _ hq).trans h.ret.c6, (c _ _ hq).trans h.ret.c7, (c _ _ hp).trans h.ret.c8⟩,
    SIs.keep h.sis (fun b hb => hb.mv hF) fun b i hb => hb.cell hF, h.mki.bel hb, h.bel.trans (hb.mono h.bel.size), h.hq.1, Nat.lt_of_lt_of_le hq hb.size⟩
theorem MadeS.fin' {W w w' : World} {p q : Nat} {all : List Nat} {r : Mk} {va vb ve vo : Value} (h : MadeS W w p q all r va vb ve vo) (m : MkI w' p W.heap.size all r.cs (r.left : Int) r.tk) (pm : ∀ n b, PtM p n w b → PtM p n w' b) (hh : ∀ k, k ≠ W.heap.size → w'.heap[k]? = w.heap[k]?) (hb : Below W.heap.size W w') :
    MadeP W all r (.returned (.tuple #[S3.sV r.s va vb ve, vo, .bool true])) w' ∧ RetS w' q p r.s va vb ve vo := by
  have hne := h.pt.2.2.1
  have hq := h.hq.1
  have hk : ∀ (k i : Nat), k ≠ W.heap.size → w'.cell? ⟨k, i, none⟩ = w.cell? ⟨k, i, none⟩ := fun k i hk => World.cell?_of_block (w := w) (hh k hk)
  have hqn : q ≠ W.heap.size := by omega
  exact ⟨⟨p, va, vb, ve, vo, rfl, SIs.keep h.sis (fun b hb => (pm _ _ hb).mono (Nat.le_succ _)) (fun b i hb => hk b i (by have := hb.1; omega)), m, (hk _ _ (Ne.symm hne)).trans h.ret.c8, hb⟩,
    ⟨(hk _ _ hqn).trans h.ret.c0, (hk _ _ hqn).trans h.ret.c1, (hk _ _ hqn).trans h.ret.c2, (hk _ _ hqn).trans h.ret.c3, (hk _ _ hqn).trans h.ret.c4, (hk _ _ hqn).trans h.ret.c5, (hk _ _ hqn).trans h.ret.c6, (hk _ _ hqn).trans h.ret.c7, (hk _ _ (Ne.symm hne)).trans h.ret.c8⟩⟩
theorem MadeS.fin {W w : World} {p q : Nat} {all : List Nat} {r : Mk} {va vb ve vo : Value} (h : MadeS W w p q all r va vb ve vo) (a0 a1 a2 a3 a4 a5 a6 a7 : Value) :
    MadeP W all r (.returned (.tuple #[S3.sV r.s va vb ve, vo, .bool true])) (put8 w W.heap.size a0 a1 a2 a3 a4 a5 a6 a7) ∧ RetS (put8 w W.heap.size a0 a1 a2 a3 a4 a5 a6 a7) q p r.s va vb ve vo :=
  MadeS.fin' h (h.mki.put8 h.pt a0 a1 a2 a3 a4 a5 a6 a7).1 (h.mki.put8 h.pt a0 a1 a2 a3 a4 a5 a6 a7).2 (put8_heap w W.heap.size a0 a1 a2 a3 a4 a5 a6 a7) (put8_below h.bel (q := W.heap.size) (Nat.le_refl _) a0 a1 a2 a3 a4 a5 a6 a7)
theorem made_mid {W w1 W2 : World} {all : List Nat} {r : Mk} {va vb ve vo : Value} (hb : Below W.heap.size W w1) (hE : SIs w1 (PtM (W.heap.size + 1) W2.heap.size w1) r.s va vb ve) (hI : MkI w1 (W.heap.size + 1) W.heap.size all r.cs (r.left : Int) r.tk) (hpn : PtM (W.heap.size + 1) W.heap.size w1 W.heap.size) (hr8 : R8 w1 W.heap.size) (hvo : w1.cell? ⟨W.heap.size + 1, 3, none⟩ = some vo) (hq : W.heap.size + 2 ≤ w1.heap.size) (hW2 : W.heap.size + 1 ≤ W2.heap.size) :
    MadeS W (w1.alloc (S3.sO r.s va vb ve)) (W.heap.size + 1) w1.heap.size all r va vb ve vo := by
  have hF1 := FrM.al w1 (S3.sO r.s va vb ve) hI.p_lt
  have hB1 := S3.bal w1 (S3.sO r.s va vb ve)
  have hrow := heap_alloc_new w1 (S3.sO r.s va vb ve)
  refine ⟨hr8.bel hB1, hpn.mv hF1, ⟨?_, ?_, ?_, ?_, ?_, ?_, ?_, ?_, ?_⟩, ?_, hI.al _, ?_, ?_⟩
  · exact (cell_of_row _ _ 0 _ _ _ hrow).trans rfl
  · exact (cell_of_row _ _ 1 _ _ _ hrow).trans rfl
  · exact (cell_of_row _ _ 2 _ _ _ hrow).trans rfl
  · exact (cell_of_row _ _ 3 _ _ _ hrow).trans rfl
  · exact (cell_of_row _ _ 4 _ _ _ hrow).trans rfl
  · exact (cell_of_row _ _ 5 _ _ _ hrow).trans rfl
  · exact (cell_of_row _ _ 6 _ _ _ hrow).trans rfl
  · exact (cell_of_row _ _ 7 _ _ _ hrow).trans rfl
  · exact (hB1.cell (p := ⟨W.heap.size + 1, 3, none⟩) (show W.heap.size + 1 < _ by omega)).trans hvo
  · exact SIs.keep hE (fun b hb => (hb.mv hF1).mono hW2) fun b i hb => hb.cell hF1
  · exact hb.trans (hB1.mono (by omega))
  · rw [S3.sz1]; omega
set_option maxRecDepth 100000 in
set_option maxHeartbeats 8000000 in
theorem made_calls {W : World} {code : Value} {all : List Nat} (h : CodL W W.heap.size code all) (h2 : all.length ≤ 200) : Calls Tryz.prog 5 #[code] W (MadeP W all (mkS 4 25 all)) := by
  have HI := MkI.start h
  have C := Lib.hid (stmtM_all 4 (by decide) _ _ _ _ _ 25 _ HI (by decide) (by decide) (by have := mkS_len4 25 all; simp; omega))
  have HI := Lib.hid HI
  obtain ⟨A, c, rfl, _⟩ := h
  have q2 : ¬ (200 : Int) < (all.length : Int) := by omega
  have Q := Lib.hid (R8.new W (.int .i64 0) (.int .i64 0) (.string ⟨#[]⟩) (.int .i64 0) (.string ⟨#[]⟩) (.slice none 0 0) (.slice none 0 0) (.slice none 0 0))
  generalize mkS 4 25 all = rr at *
  go_enter Tryz.func5, Tryz.ntmps5
  go_wp2_with fail
  refine C.out.mono ?_
  rintro E w1 ⟨va, vb, ve, rfl, hE, hI, hF⟩
  rw [List.nil_append] at hI
  have hz : (W.alloc sZ).heap.size = W.heap.size + 1 := S3.sz1 _ _
  have hz2 : ((W.alloc sZ).alloc (mkO (.slice A all.length c))).heap.size = W.heap.size + 2 := by rw [S3.sz1, hz]
  have hq0 : W.heap.size + 2 ≤ w1.heap.size := by have := hF.size; omega
  have hb1 := hF.below
  have hpn : PtM (W.heap.size + 1) W.heap.size w1 W.heap.size := by
    refine PtM.mv (W := (W.alloc sZ).alloc (mkO (.slice A all.length c))) ⟨Nat.le_refl _, by rw [hz2]; omega, by omega, ?_⟩ hF
    rintro ⟨vo, e1, e2⟩
    have := HI.out.out_gt _ ⟨vo, e1, e2⟩
    omega
  have hr8 : R8 w1 W.heap.size := by
    obtain ⟨b0, b1, b2, b3, b4, b5, b6, b7, e⟩ := (Q.out).bel (S3.bal (W.alloc sZ) (mkO (.slice A all.length c)))
    refine ⟨b0, b1, b2, b3, b4, b5, b6, b7, (hF.keep _ (by rw [hz2]; omega) (by omega) ?_).trans e⟩
    rintro ⟨vo, e1, e2⟩
    have := HI.out.out_gt _ ⟨vo, e1, e2⟩
    omega
  obtain ⟨vo, hvo⟩ : ∃ vo, w1.cell? ⟨W.heap.size + 1, 3, none⟩ = some vo := by
    obtain ⟨⟨_, _, vo, _, _, _, h4, _⟩, _⟩ := hI
    exact ⟨vo, (mk_row h4).2.2.2⟩
  have hS := made_mid hb1 hE hI hpn hr8 hvo hq0 (by rw [hz2]; omega)
  obtain ⟨⟨Aa, ka, rfl⟩, ⟨Ab, kb, rfl⟩, ⟨Ae, ke, rfl⟩⟩ : (∃ A c, va = .slice A rr.s.args.length c) ∧ (∃ A c, vb = .slice A rr.s.body.length c) ∧ ∃ A c, ve = .slice A rr.s.els.length c := ⟨hE.a.slice, hE.b.slice, hE.e.slice⟩
  have HS := Lib.hid hS
  clear hE hI hF hb1 hpn hr8 hvo hS Q HI C hz hz2
  go_wp2_with fail
  change Hid (MadeS W (w1.alloc (S3.sO rr.s (.slice Aa rr.s.args.length ka) (.slice Ab rr.s.body.length kb) (.slice Ae rr.s.els.length ke))) (W.heap.size + 1) w1.heap.size all rr (.slice Aa rr.s.args.length ka) (.slice Ab rr.s.body.length kb) (.slice Ae rr.s.els.length ke) vo) at HS
  generalize w1.alloc (S3.sO rr.s (.slice Aa rr.s.args.length ka) (.slice Ab rr.s.body.length kb) (.slice Ae rr.s.els.length ke)) = w2 at *
  have HS := Lib.hid (HS.out.step (bal_drM w2))
  have hS0 := Lib.hid HS.out.ret
  have qa0 := fun W1 (h : Hid (RetS W1 w1.heap.size (W.heap.size + 1) rr.s (.slice Aa rr.s.args.length ka) (.slice Ab rr.s.body.length kb) (.slice Ae rr.s.els.length ke) vo)) => h.out.c0
  have qa1 := fun W1 (h : Hid (RetS W1 w1.heap.size (W.heap.size + 1) rr.s (.slice Aa rr.s.args.length ka) (.slice Ab rr.s.body.length kb) (.slice Ae rr.s.els.length ke) vo)) => h.out.c1
  have qa2 := fun W1 (h : Hid (RetS W1 w1.heap.size (W.heap.size + 1) rr.s (.slice Aa rr.s.args.length ka) (.slice Ab rr.s.body.length kb) (.slice Ae rr.s.els.length ke) vo)) => h.out.c2
  have qa3 := fun W1 (h : Hid (RetS W1 w1.heap.size (W.heap.size + 1) rr.s (.slice Aa rr.s.args.length ka) (.slice Ab rr.s.body.length kb) (.slice Ae rr.s.els.length ke) vo)) => h.out.c3
  have qa4 := fun W1 (h : Hid (RetS W1 w1.heap.size (W.heap.size + 1) rr.s (.slice Aa rr.s.args.length ka) (.slice Ab rr.s.body.length kb) (.slice Ae rr.s.els.length ke) vo)) => h.out.c4
  have qa5 := fun W1 (h : Hid (RetS W1 w1.heap.size (W.heap.size + 1) rr.s (.slice Aa rr.s.args.length ka) (.slice Ab rr.s.body.length kb) (.slice Ae rr.s.els.length ke) vo)) => h.out.c5
  have qa6 := fun W1 (h : Hid (RetS W1 w1.heap.size (W.heap.size + 1) rr.s (.slice Aa rr.s.args.length ka) (.slice Ab rr.s.body.length kb) (.slice Ae rr.s.els.length ke) vo)) => h.out.c6
  have qa7 := fun W1 (h : Hid (RetS W1 w1.heap.size (W.heap.size + 1) rr.s (.slice Aa rr.s.args.length ka) (.slice Ab rr.s.body.length kb) (.slice Ae rr.s.els.length ke) vo)) => h.out.c7
  have qa8 := fun W1 (h : Hid (RetS W1 w1.heap.size (W.heap.size + 1) rr.s (.slice Aa rr.s.args.length ka) (.slice Ab rr.s.body.length kb) (.slice Ae rr.s.els.length ke) vo)) => h.out.c8
  refine wp_region_noPanic ?_
  refine wp_region_held_drew (S := fun W1 => Hid (RetS W1 w1.heap.size (W.heap.size + 1) rr.s (.slice Aa rr.s.args.length ka) (.slice Ab rr.s.body.length kb) (.slice Ae rr.s.els.length ke) vo)) (by kernel_rfl) hS0 (fun hHeld => ?_)
  generalize w2.drew = wd at *
  obtain ⟨z0, z1, z2, z3, z4, z5, z6, z7, r0, r1, r2, r3, r4, r5, r6, r7, y0, y1, y2, y3, y4, y5, y6, y7⟩ := HS.out.r8.facts
  have hq2 := HS.out.r8.lt
  obtain ⟨hfin, hret⟩ := HS.out.fin (.int .i64 rr.s.kind) (.int .i64 rr.s.no) (.string (S3.B rr.s.name)) (.int .i64 rr.s.typ) (.string (S3.B rr.s.callee)) (.slice Aa rr.s.args.length ka) (.slice Ab rr.s.body.length kb) (.slice Ae rr.s.els.length ke)
  have HP := Lib.hid hfin
  have HR := Lib.hid hret
  clear hS0 hfin hret
  refine wpAnyH_take (i := 0) (oi := { dst := some 16, op := Go.Op.load 27 (Go.Operand.tmp 6), type := 27, pos := "outright.go:183", after := #[], guard := none }) (v := ?_) rfl (by as_aux_lemma => kernel_rfl) (by as_aux_lemma => kernel_rfl) (by as_aux_lemma => kernel_rfl) (fun _ _ _ h => h) (Or.inl ⟨by rfl, ?_⟩) hHeld ?_
  rotate_left
  · (intro w hSw; (try dsimp only at hSw); go_simp; try with_reducible rfl)
  try simp only [Act.put, List.setIfInBounds_toArray, List.set_cons_zero, List.set_cons_succ]
  refine wpAnyH_take (i := 1) (oi := { dst := some 17, op := Go.Op.move (Go.Operand.tmp 5), type := 44, pos := "outright.go:183", after := #[{ on := 5, ground := Go.Ground.gcOnly Go.Departure.lateStores }], guard := none }) (v := ?_) rfl (by as_aux_lemma => kernel_rfl) (by as_aux_lemma => kernel_rfl) (by as_aux_lemma => kernel_rfl) (fun _ _ _ h => h) (Or.inl ⟨by rfl, ?_⟩) hHeld ?_
  rotate_left
  · (intro w hSw; (try dsimp only at hSw); go_simp; try with_reducible rfl)
  try simp only [Act.put, List.setIfInBounds_toArray, List.set_cons_zero, List.set_cons_succ]
  refine wpAnyH_take (i := 2) (oi := { dst := some 18, op := Go.Op.nilCheck (Go.Operand.tmp 17), type := 0, pos := "outright.go:183", after := #[{ on := 1, ground := Go.Ground.data }, { on := 5, ground := Go.Ground.gcOnly Go.Departure.lateStores }], guard := none }) (v := ?_) rfl (by as_aux_lemma => kernel_rfl) (by as_aux_lemma => kernel_rfl) (by as_aux_lemma => kernel_rfl) (fun _ _ _ h => h) (Or.inl ⟨by rfl, ?_⟩) hHeld ?_
  rotate_left
  · (intro w hSw; (try dsimp only at hSw); go_simp; try with_reducible rfl)
  try simp only [Act.put, List.setIfInBounds_toArray, List.set_cons_zero, List.set_cons_succ]
  refine wpAnyH_take (i := 3) (oi := { dst := some 19, op := Go.Op.fieldAddr 46 (Go.Operand.tmp 18) 3, type := 0, pos := "outright.go:183", after := #[{ on := 2, ground := Go.Ground.data }, { on := 5, ground := Go.Ground.gcOnly Go.Departure.lateStores }], guard := none }) (v := ?_) rfl (by as_aux_lemma => kernel_rfl) (by as_aux_lemma => kernel_rfl) (by as_aux_lemma => kernel_rfl) (fun _ _ _ h => h) (Or.inl ⟨by rfl, ?_⟩) hHeld ?_
  rotate_left
  · (intro w hSw; (try dsimp only at hSw); go_simp; try with_reducible rfl)
  try simp only [Act.put, List.setIfInBounds_toArray, List.set_cons_zero, List.set_cons_succ]
  refine wpAnyH_take (i := 4) (oi := { dst := some 20, op := Go.Op.load 23 (Go.Operand.tmp 19), type := 23, pos := "outright.go:183", after := #[{ on := 3, ground := Go.Ground.data }, { on := 5, ground := Go.Ground.gcOnly Go.Departure.lateStores }], guard := none }) (v := ?_) rfl (by as_aux_lemma => kernel_rfl) (by as_aux_lemma => kernel_rfl) (by as_aux_lemma => kernel_rfl) (fun _ _ _ h => h) (Or.inl ⟨by rfl, ?_⟩) hHeld ?_
  rotate_left
  · (intro w hSw; (try dsimp only at hSw); go_simp; try with_reducible rfl)
  try simp only [Act.put, List.setIfInBounds_toArray, List.set_cons_zero, List.set_cons_succ]
  clear qa0 qa1 qa2 qa3 qa4 qa5 qa6 qa7 qa8
  refine wpAnyH_ready (rs := [5]) (by as_aux_lemma => kernel_rfl) (List.cons_ne_nil _ _) ?_
  refine AllReadyH.cons (o := { dst := none, op := Go.Op.store 27 (Go.Operand.tmp 2) (Go.Operand.tmp 16), type := 0, pos := "outright.go:183", after := #[{ on := 0, ground := Go.Ground.data }, { on := 0, ground := Go.Ground.phase }, { on := 1, ground := Go.Ground.textOnly Go.Departure.lateStores }, { on := 2, ground := Go.Ground.textOnly Go.Departure.lateStores }, { on := 3, ground := Go.Ground.textOnly Go.Departure.lateStores }, { on := 4, ground := Go.Ground.textOnly Go.Departure.lateStores }], guard := none }) rfl (fun K hK => ?_) AllReadyH.nil
  go_simp
  refine hK.out _ _ HR (fun _ => ?_)
  clear hK K hHeld
  have hHeld := HR
  clear HR
  try simp only [Act.put, List.setIfInBounds_toArray, List.set_cons_zero, List.set_cons_succ]
  refine wpAnyH_ready (rs := [6]) (by as_aux_lemma => kernel_rfl) (List.cons_ne_nil _ _) ?_
  refine AllReadyH.cons (o := { dst := some 3, op := Go.Op.assign (Go.Operand.tmp 20), type := 23, pos := "outright.go:183", after := #[{ on := 4, ground := Go.Ground.data }, { on := 5, ground := Go.Ground.chain }, { on := 0, ground := Go.Ground.phase }, { on := 1, ground := Go.Ground.phase }, { on := 2, ground := Go.Ground.phase }, { on := 3, ground := Go.Ground.phase }, { on := 4, ground := Go.Ground.phase }, { on := 5, ground := Go.Ground.phase }], guard := none }) rfl (fun K hK => ?_) AllReadyH.nil
  go_simp
  refine hK.out _ _ hHeld (fun _ => ?_)
  clear hK K
  try simp only [Act.put, List.setIfInBounds_toArray, List.set_cons_zero, List.set_cons_succ]
  refine wpAnyH_ready (rs := [7]) (by as_aux_lemma => kernel_rfl) (List.cons_ne_nil _ _) ?_
  refine AllReadyH.cons (o := { dst := some 4, op := Go.Op.assign (Go.Operand.const (Go.Value.bool true)), type := 4, pos := "outright.go:183", after := #[{ on := 6, ground := Go.Ground.chain }, { on := 0, ground := Go.Ground.phase }, { on := 1, ground := Go.Ground.phase }, { on := 2, ground := Go.Ground.phase }, { on := 3, ground := Go.Ground.phase }, { on := 4, ground := Go.Ground.phase }, { on := 5, ground := Go.Ground.phase }, { on := 6, ground := Go.Ground.phase }], guard := none }) rfl (fun K hK => ?_) AllReadyH.nil
  go_simp
  refine hK.out _ _ hHeld (fun _ => ?_)
  clear hK K
  try simp only [Act.put, List.setIfInBounds_toArray, List.set_cons_zero, List.set_cons_succ]
  refine wpAnyH_done (by kernel_rfl) ?_ _
  refine NoPanic.normal ?_
  go_wp2_with fail
  exact bodyPost_ret (v := .tuple #[S3.sV rr.s (.slice Aa rr.s.args.length ka) (.slice Ab rr.s.body.length kb) (.slice Ae rr.s.els.length ke), vo, .bool true]) (by simp [results, Tryz.results5, go_sem, r0, r1, r2, r3, r4, r5, r6, r7]) rfl HP.out

set_option maxRecDepth 100000 in
set_option maxHeartbeats 8000000 in
theorem made_long {W : World} {A : Option Addr} {n c : Nat} (h2 : 200 < n) : Calls Tryz.prog 5 #[.slice A n c] W fun E W' => E = .returned (.tuple #[S3.sV zS (.slice none 0 0) (.slice none 0 0) (.slice none 0 0), .slice none 0 0, .bool false]) ∧ Below W.heap.size W W' := by
  have q2 : (200 : Int) < (n : Int) := by omega
  go_enter Tryz.func5, Tryz.ntmps5
  go_wp2_with fail
  exact bodyPost_ret (v := .tuple #[S3.sV zS (.slice none 0 0) (.slice none 0 0) (.slice none 0 0), .slice none 0 0, .bool false]) (by simp [results, Tryz.results5, go_sem, zS]) rfl ⟨rfl, by repeat (first | exact Below.refl _ _ | (refine Below.alloc ?_ (by first | omega | (simp; try omega)) _))⟩

end Go.Proofs.YtipepljmfgjbpaaGreatDoor.E6

namespace Go.Proofs.YtipepljmfgjbpaaGreatDoor.E6
open Go Go.RowKit Go.Proofs.YtipepljmfgjbpaaGreatDoor Go.Proofs.YtipepljmfgjbpaaGreatDoor.E5

/-- What is read at depth 1 of a statement's tokens up to the k-th: the same at the end as in front of another token. -/
theorem need_two {deep : Nat} {s : St} {ts : TL} (h : FS deep s ts) (hd : 1 + deep ≤ 20) {k : Nat} (hk : k < ts.length) :
    ∃ r, (r = .bad k 7 ∨ (s.kind = 9 ∧ r = .ok { s with els := [] } k)) ∧ stR (ts.take k) 0 1 = r ∧ stR (ts.set k (3, [102, 117, 110, 99])) 0 1 = r := by
  obtain ⟨r, h1, h2⟩ := h.cut k hk 0
  rw [Nat.zero_add] at h1
  refine ⟨r, h1, h2 _ 1 [] (.inl rfl) (Nat.zero_le _) hd (by simp), h2 _ 1 ((3, [102, 117, 110, 99]) :: ts.drop (k + 1)) (.inr ⟨_, rfl⟩) (Nat.zero_le _) hd ?_⟩
  rw [List.drop_zero, List.set_eq_take_append_cons_drop, if_pos hk]
/-- A made statement has tokens. -/
theorem FS.pos {deep : Nat} {s : St} {ts : TL} (h : FS deep s ts) : 0 < ts.length := by
  obtain ⟨x, r, rfl, _⟩ := h.head
  simp
theorem depS_one : depS 1 = 1 := rfl

/-- A token stored in the place of the k-th. -/
theorem tok_put {W : World} {M k n c : Nat} {b o : Nat} {l : TL} (h : TokL W M (.slice (some ⟨b, o, none⟩) n c) l) (hk : k < l.length) (K a : Int) (s : Bytes) (hs : s.length ≤ 9223372036854775807) :
    TokL (((W.setCell ⟨b, o + k * 3, none⟩ (.int .i64 K)).setCell ⟨b, o + k * 3 + 1, none⟩ (.string (B s))).setCell ⟨b, o + k * 3 + 2, none⟩ (.int .i64 a)) M (.slice (some ⟨b, o, none⟩) n c) (l.set k (K, s)) := by
  obtain ⟨A', c', h1, h2, h3⟩ := h
  injection h1 with h1 hn hc
  subst h1 hn hc
  have hx : ∀ (w : World) (i j : Nat) (u : Value), i ≠ j → (w.setCell ⟨b, i, none⟩ u).cell? ⟨b, j, none⟩ = w.cell? ⟨b, j, none⟩ := fun w i j u hne => World.cell?_setCell_other _ _ _ _ (by intro e; injection e with _ e; omega)
  refine ⟨some ⟨b, o, none⟩, c, by rw [List.length_set], by rw [List.length_set]; exact h2, fun i t ht => ?_⟩
  rw [List.getElem?_set] at ht
  by_cases hik : k = i
  · subst hik
    rw [if_pos rfl, if_pos hk] at ht
    obtain rfl := (Option.some.inj ht).symm
    obtain ⟨_, b', o', a', e1, e2, e3, e4, e5⟩ := h3 k _ (List.getElem?_eq_getElem hk)
    injection e1 with e1
    injection e1 with q1 q2
    subst q1 q2
    refine ⟨hs, _, _, a, rfl, e2, ?_, ?_, ?_⟩
    · rw [hx _ _ _ _ (by omega), hx _ _ _ _ (by omega)]
      exact World.cell?_setCell_same _ _ _ e3
    · rw [hx _ _ _ _ (by omega)]
      exact World.cell?_setCell_same _ _ _ ((hx _ _ _ _ (by omega)).trans e4)
    · exact World.cell?_setCell_same _ _ _ ((hx _ _ _ _ (by omega)).trans ((hx _ _ _ _ (by omega)).trans e5))
  · rw [if_neg hik] at ht
    obtain ⟨e0, b', o', a', e1, e2, e3, e4, e5⟩ := h3 i t ht
    injection e1 with e1
    injection e1 with q1 q2
    subst q1 q2
    refine ⟨e0, _, _, a', rfl, e2, ?_, ?_, ?_⟩
    · rw [hx _ _ _ _ (by omega), hx _ _ _ _ (by omega), hx _ _ _ _ (by omega)]; exact e3
    · rw [hx _ _ _ _ (by omega), hx _ _ _ _ (by omega), hx _ _ _ _ (by omega)]; exact e4
    · rw [hx _ _ _ _ (by omega), hx _ _ _ _ (by omega), hx _ _ _ _ (by omega)]; exact e5
/-- The tokens up to the k-th. -/
theorem tok_cut {W : World} {M k n c c' : Nat} {A : Option Addr} {l : TL} (h : TokL W M (.slice A n c) l) (hk : k ≤ l.length) : TokL W M (.slice A k c') (l.take k) := by
  obtain ⟨A', c1, h1, h2, h3⟩ := h
  injection h1 with h1 hn hc
  subst h1
  refine ⟨A, c', by rw [List.length_take, Nat.min_eq_left hk], by rw [List.length_take]; omega, fun i t ht => ?_⟩
  rw [List.getElem?_take] at ht
  split at ht
  · exact h3 i t ht
  · cases ht

/-- The bytes that are given, for the maker. -/
theorem cod_of {W : World} {v : Value} {l : List Nat} (h : ByL W v l) (hl : l.length ≤ 1000000) : CodL W W.heap.size v l := by
  obtain ⟨A, c, h1, h2, h3, h4, h5⟩ := h
  exact ⟨A, c, h1, hl, fun x hx => by have := h4 x hx; omega, fun j b hj => by
    obtain ⟨g, o, e1, e2, e3⟩ := h5 j b hj
    exact ⟨g, o, e1, e2, e3⟩⟩
/-- Where the tokens of a made statement lie. -/
theorem made_out {W : World} {p M : Nat} {all cs : List Nat} {left : Int} {tk : TL} {vo : Value} (h : MkI W p M all cs left tk) (hvo : W.cell? ⟨p, 3, none⟩ = some vo) (h0 : 0 < tk.length) (hl : tk.length ≤ 1000000) :
    ∃ g cap, vo = .slice (some ⟨g, 0, none⟩) tk.length cap ∧ TokL W W.heap.size vo tk ∧ p < g ∧ g < W.heap.size ∧ (∀ n b, PtM p n W b → b ≠ g) ∧ (∀ i, W.frozen? ⟨g, i, none⟩ = false) ∧ tk.length ≤ cap ∧ cap ≤ 9223372036854775807 := by
  have hout := h.out_gt
  obtain ⟨⟨code, a, vo', h1, h2, h3, h4, h5⟩, hM⟩ := h
  rw [(mk_row h4).2.2.2] at hvo
  obtain rfl := Option.some.inj hvo
  have hT := tokL_grA h5 hl
  obtain ⟨Ac, cc, ec, hc1, hc2⟩ := gr_cap h5
  rcases h5.done with ⟨rfl, A, c, rfl⟩ | ⟨g, cap, V, rfl, hg, hr, hp⟩
  · simp at h0
  · obtain rfl : cap = cc := by injection ec
    exact ⟨g, cap, rfl, hT, (hout g ⟨_, (mk_row h4).2.2.2, rfl⟩).1, (hout g ⟨_, (mk_row h4).2.2.2, rfl⟩).2, fun n b hb e => hb.2.2.2 (by subst e; exact ⟨_, (mk_row h4).2.2.2, rfl⟩), fun i => hr.free i, hc1, hc2⟩

end Go.Proofs.YtipepljmfgjbpaaGreatDoor.E6
