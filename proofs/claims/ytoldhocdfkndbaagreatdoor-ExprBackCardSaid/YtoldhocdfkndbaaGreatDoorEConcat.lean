/-
  slices.Concat of three slices of tokens: contract.
-/
import Derived.Test.YtoldhocdfkndbaaGreatDoorETk
namespace Go.Proofs.YtoldhocdfkndbaaGreatDoor.E5
open Go Go.RowKit Go.Proofs.YtoldhocdfkndbaaGreatDoor

set_option maxRecDepth 100000 in
set_option maxHeartbeats 4000000 in
theorem concat3 {w : World} {b : Nat} {A0 A1 A2 : Option Addr} {n0 n1 n2 c0 c1 c2 : Nat} {l0 l1 l2 : TL} (h0 : TokL w w.heap.size (.slice A0 n0 c0) l0) (h1 : TokL w w.heap.size (.slice A1 n1 c1) l1) (h2 : TokL w w.heap.size (.slice A2 n2 c2) l2)
    (d0 : w.cell? ⟨b, 0, none⟩ = some (.slice A0 n0 c0)) (d1 : w.cell? ⟨b, 1, none⟩ = some (.slice A1 n1 c1)) (d2 : w.cell? ⟨b, 2, none⟩ = some (.slice A2 n2 c2)) (hl : l0.length + l1.length + l2.length ≤ 300000) :
    Calls Tryz.prog 26 #[.slice (some ⟨b, 0, none⟩) 3 3] w fun e w' => ∃ v', e = .returned v' ∧ S3.GrI kA w.heap.size (l0 ++ l1 ++ l2) v' w' ∧ Below w.heap.size w w' := by
  have hbw : b < w.heap.size := World.block_lt_of_cell? _ _ d0
  obtain rfl := (tok_rows h0).1
  obtain rfl := (tok_rows h1).1
  obtain rfl := (tok_rows h2).1
  have H0 := Lib.hid h0
  have H1 := Lib.hid h1
  have H2 := Lib.hid h2
  clear h0 h1 h2
  go_enter Tryz.func26, Tryz.ntmps26
  go_wp2_with fail
  refine wp_loop_rounds 4 ?_
  rw [rounds_succ]
  go_wp2_with fail
  rw [rounds_succ]
  go_wp2_with fail
  rw [rounds_succ]
  go_wp2_with fail
  rw [rounds_succ]
  go_wp2_with fail
  rw [show ((l0.length : Int) + (l1.length : Int) + (l2.length : Int)) = ((l0.length + l1.length + l2.length : Nat) : Int) by omega]
  refine (grow_nil (l0.length + l1.length + l2.length) (by omega) w).mono ?_
  rintro e u0 ⟨v0, rfl, hG0, hb0⟩
  have HB0 := Lib.hid hb0
  obtain ⟨v1, u1, hrun0, hG1, hb1⟩ := cat_run (M := w.heap.size) hG0 (H0.out.bel HB0.out) (by simp; omega) 35
  have HB1 := Lib.hid (HB0.out.trans hb1)
  obtain ⟨v2, u2, hrun1, hG2, hb2⟩ := cat_run (M := w.heap.size) hG1 (H1.out.bel HB1.out) (by simp; omega) 35
  have HB2 := Lib.hid (HB1.out.trans hb2)
  obtain ⟨v3, u3, hrun2, hG3, hb3⟩ := cat_run (M := w.heap.size) hG2 (H2.out.bel HB2.out) (by simp; omega) 35
  have HB3 := Lib.hid (HB2.out.trans hb3)
  have a0 := (HB0.out.cell (p := ⟨b, 0, none⟩) hbw).trans d0
  have a1 := (HB1.out.cell (p := ⟨b, 1, none⟩) hbw).trans d1
  have a2 := (HB2.out.cell (p := ⟨b, 2, none⟩) hbw).trans d2
  have HG3 := Lib.hid hG3
  have R0 := Lib.hid hrun0
  have R1 := Lib.hid hrun1
  have R2 := Lib.hid hrun2
  clear hb0 hb1 hb2 hb3 hG0 hG1 hG2 hG3 hrun0 hrun1 hrun2 d0 d1 d2
  go_wp2_with fail
  refine wp_loop_rounds 4 ?_
  rw [rounds_succ]
  go_wp2_with (at_builtin; refine Lib.wpList_append_run _ rfl _ _ _ _ rfl _ _ rfl rfl _ _ R0.out ?_)
  rw [rounds_succ]
  go_wp2_with (at_builtin; refine Lib.wpList_append_run _ rfl _ _ _ _ rfl _ _ rfl rfl _ _ R1.out ?_)
  rw [rounds_succ]
  go_wp2_with (at_builtin; refine Lib.wpList_append_run _ rfl _ _ _ _ rfl _ _ rfl rfl _ _ R2.out ?_)
  rw [rounds_succ]
  go_wp2_with fail
  go_ret
  exact ⟨_, rfl, HG3.out, HB3.out⟩
end Go.Proofs.YtoldhocdfkndbaaGreatDoor.E5
