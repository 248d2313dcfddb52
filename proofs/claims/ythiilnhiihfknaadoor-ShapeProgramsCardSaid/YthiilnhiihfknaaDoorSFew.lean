/-
  ShapePrograms: few, and the law's walk.
-/
import Derived.Test.YthiilnhiihfknaaDoorSRSame
import Derived.Test.YthiilnhiihfknaaDoorSWorks
import Derived.Test.YthiilnhiihfknaaDoorSStmts
import Derived.Deep.RegionWith
import Derived.Deep.RegionHeld3
import Derived.Deep.DeepCutAuto
import Derived.Lib.QuietBelow
import Derived.BigQuiet
namespace Go.Proofs.YthiilnhiihfknaaDoor
open Go Go.RowKit Go.Sort

def SomeB (w : World) (e : Ending) (w' : World) : Prop := ∃ b : Bool, e = .returned (.bool b) ∧ Below w.heap.size w w'
set_option maxRecDepth 100000 in
set_option maxHeartbeats 4000000 in
theorem few_calls (l : List Fn) (A : Option Addr) (c : Nat) (w : World) (hl : FIn w w.heap.size l (.slice A l.length c)) (hc : l.length ≤ c) :
    Calls Tryd.prog 21 #[.agg #[.slice A l.length c]] w (SomeB w) := by
  have hle := hl.le
  have HL := Lib.hid hl
  have hb0 := bal w (.cells #[.slice A l.length c] 35)
  have hb1 := heap_alloc_new w (.cells #[.slice A l.length c] 35)
  have HB0 := Lib.hid hb0
  have HB1 := Lib.hid hb1
  obtain ⟨k, hk1, hk2⟩ : ∃ k : Nat, k ≤ l.length ∧ ((l.length ≤ 26 ∧ k = l.length) ∨ (26 < l.length ∧ k = 26)) := by
    by_cases h : l.length ≤ 26
    · exact ⟨l.length, Nat.le_refl _, .inl ⟨h, rfl⟩⟩
    · exact ⟨26, by omega, .inr ⟨by omega, rfl⟩⟩
  clear hl hb0 hb1
  rcases hk2 with ⟨h26, rfl⟩ | ⟨h26, rfl⟩
  · go_enter Tryd.func21, Tryd.ntmps21
    go_wp2_with fail
    generalize (w.alloc (.cells #[.slice A l.length c] 35)) = w0 at *
    go_loopw [3, 14] (fun n k wr => ∃ (i : Nat) (z : Int), i ≤ l.length ∧ k = .int .i64 i ∧ n = .int .i64 z ∧ Hid (Below w0.heap.size w0 wr)) (fun _ k _ => l.length - (intOf k).toNat)
    case atStart => exact ⟨0, 0, by omega, rfl, rfl, Lib.hid (Below.refl _ _)⟩
    case round =>
      obtain ⟨i, z, hi, rfl, rfl, HW⟩ := hrel
      have hzw := HW.out.size
      by_cases hlt' : i < l.length
      · have hlt : i < l.length := by omega
        obtain ⟨b, o, vp, vb, hA, hbl, hok, hcc, hp, hb⟩ := HL.out.at_ i hlt
        have hbl0 : b < w0.heap.size := Nat.lt_of_lt_of_le hbl HB0.out.size
        obtain ⟨a0, a1, a2, a3, a4⟩ := (hcc.keep (fun q => HB0.out.cell (p := ⟨b, q, none⟩) hbl)).keep (fun q => HW.out.cell (p := ⟨b, q, none⟩) hbl0)
        obtain ⟨Ap, cp, rfl⟩ := hp.slice
        obtain ⟨Ab, cb, rfl⟩ := hb.slice
        have hpl := hp.le
        have HBd := Lib.hid (SIn.up (SIn.up hb HB0.out) (HW.out.mono (Nat.le_refl _)))
        subst hA
        clear hcc hp hb hok
        generalize l[i] = x at *
        have HS := Lib.hid (SIn.al HBd.out (fO x (.slice Ap x.params.length cp) (.slice Ab x.body.length cb)))
        have HX := Lib.hid (FBox.new wr x (.slice Ap x.params.length cp) (.slice Ab x.body.length cb))
        have CS := Lib.hid (fun W h => lawStmts_all _ x.body (Nat.lt_succ_self _) 700 (.slice Ab x.body.length cb) W (by omega) (by omega) h)
        have HBo := Lib.hid (bal wr (fO x (.slice Ap x.params.length cp) (.slice Ab x.body.length cb)))
        go_wp2_with fail
        obtain ⟨p0, p1, p2, p3, p4⟩ := HX.out
        go_region_with (go_at_call 30; refine (CS.out _ (by exact SIn.keep HS.out (Nat.le_refl _) fun _ _ _ => rfl)).mono ?_; rintro e w3 ⟨r, _, hr, rfl, hq⟩; have hq2 : Below (wr.alloc (fO x (.slice Ap x.params.length cp) (.slice Ab x.body.length cb))).heap.size (wr.alloc (fO x (.slice Ap x.params.length cp) (.slice Ab x.body.length cb))) w3 := ⟨hq.os, hq.tape, hq.output, hq.size, hq.block⟩; obtain ⟨q0, q1, q2, q3, q4⟩ := HX.out.keep hq2 (by simp))
        all_goals
          have HB3 := Lib.hid (HW.out.trans ((HBo.out.trans (hq2.mono HBo.out.size)).mono hzw))
          clear hq hq2 q0 q1 q2 q3 q4 p0 p1 p2 p3 p4 a0 a1 a2 a3 a4
          go_wp2_with fail
          all_goals first
            | (go_ret; exact ⟨false, rfl, HB0.out.trans (HB3.out.mono HB0.out.size)⟩)
            | skip
          all_goals
            go_roundw
            case rel => exact ⟨i + 1, _, by omega, by go_num, rfl, HB3⟩
            case measure => simp [intOf]; omega
      · obtain rfl : i = l.length := by omega
        have B1 := (HW.out.block w.heap.size (lt_of_block HB1.out)).trans HB1.out
        have c1 := cell_of_one B1
        clear B1
        go_wp2_with fail
        go_ret
        exact ⟨_, rfl, HB0.out.trans (HW.out.mono HB0.out.size)⟩
  · go_enter Tryd.func21, Tryd.ntmps21
    go_wp2_with fail
    generalize (w.alloc (.cells #[.slice A l.length c] 35)) = w0 at *
    go_loopw [3, 14] (fun n k wr => ∃ (i : Nat) (z : Int), i ≤ 26 ∧ k = .int .i64 i ∧ n = .int .i64 z ∧ Hid (Below w0.heap.size w0 wr)) (fun _ k _ => 26 - (intOf k).toNat)
    case atStart => exact ⟨0, 0, by omega, rfl, rfl, Lib.hid (Below.refl _ _)⟩
    case round =>
      obtain ⟨i, z, hi, rfl, rfl, HW⟩ := hrel
      have hzw := HW.out.size
      by_cases hlt' : i < 26
      · have hlt : i < l.length := by omega
        obtain ⟨b, o, vp, vb, hA, hbl, hok, hcc, hp, hb⟩ := HL.out.at_ i hlt
        have hbl0 : b < w0.heap.size := Nat.lt_of_lt_of_le hbl HB0.out.size
        obtain ⟨a0, a1, a2, a3, a4⟩ := (hcc.keep (fun q => HB0.out.cell (p := ⟨b, q, none⟩) hbl)).keep (fun q => HW.out.cell (p := ⟨b, q, none⟩) hbl0)
        obtain ⟨Ap, cp, rfl⟩ := hp.slice
        obtain ⟨Ab, cb, rfl⟩ := hb.slice
        have hpl := hp.le
        have HBd := Lib.hid (SIn.up (SIn.up hb HB0.out) (HW.out.mono (Nat.le_refl _)))
        subst hA
        clear hcc hp hb hok
        generalize l[i] = x at *
        have HS := Lib.hid (SIn.al HBd.out (fO x (.slice Ap x.params.length cp) (.slice Ab x.body.length cb)))
        have HX := Lib.hid (FBox.new wr x (.slice Ap x.params.length cp) (.slice Ab x.body.length cb))
        have CS := Lib.hid (fun W h => lawStmts_all _ x.body (Nat.lt_succ_self _) 700 (.slice Ab x.body.length cb) W (by omega) (by omega) h)
        have HBo := Lib.hid (bal wr (fO x (.slice Ap x.params.length cp) (.slice Ab x.body.length cb)))
        go_wp2_with fail
        obtain ⟨p0, p1, p2, p3, p4⟩ := HX.out
        go_region_with (go_at_call 30; refine (CS.out _ (by exact SIn.keep HS.out (Nat.le_refl _) fun _ _ _ => rfl)).mono ?_; rintro e w3 ⟨r, _, hr, rfl, hq⟩; have hq2 : Below (wr.alloc (fO x (.slice Ap x.params.length cp) (.slice Ab x.body.length cb))).heap.size (wr.alloc (fO x (.slice Ap x.params.length cp) (.slice Ab x.body.length cb))) w3 := ⟨hq.os, hq.tape, hq.output, hq.size, hq.block⟩; obtain ⟨q0, q1, q2, q3, q4⟩ := HX.out.keep hq2 (by simp))
        all_goals
          have HB3 := Lib.hid (HW.out.trans ((HBo.out.trans (hq2.mono HBo.out.size)).mono hzw))
          clear hq hq2 q0 q1 q2 q3 q4 p0 p1 p2 p3 p4 a0 a1 a2 a3 a4
          go_wp2_with fail
          all_goals first
            | (go_ret; exact ⟨false, rfl, HB0.out.trans (HB3.out.mono HB0.out.size)⟩)
            | skip
          all_goals
            go_roundw
            case rel => exact ⟨i + 1, _, by omega, by go_num, rfl, HB3⟩
            case measure => simp [intOf]; omega
      · obtain rfl : i = 26 := by omega
        have B1 := (HW.out.block w.heap.size (lt_of_block HB1.out)).trans HB1.out
        have c1 := cell_of_one B1
        clear B1
        go_wp2_with fail
        go_ret
        exact ⟨_, rfl, HB0.out.trans (HW.out.mono HB0.out.size)⟩
end Go.Proofs.YthiilnhiihfknaaDoor
