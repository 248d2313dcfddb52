/-
  StmtRefuses, its examples' contract given.
-/
import Derived.Test.YtoldhocdfkndbaaGreatDoorTTok
import Derived.Test.YtoldhocdfkndbaaGreatDoorTFew
namespace Go.Proofs.YtoldhocdfkndbaaGreatDoor.E6
open Go Go.RowKit Go.Proofs.YtoldhocdfkndbaaGreatDoor Go.Proofs.YtoldhocdfkndbaaGreatDoor.E5

def refT (m k : Nat) : Array Value := #[.int .i64 (-1 - (m : Int)), .int .i64 1, .int .i64 ((k : Int) + 1 + (m : Int)), .int .i64 1, .int .i64 0, .int .i64 (-(m : Int)), .int .i64 (k : Int), .int .i64 (-(m : Int))]
def refX (m k : Nat) : Nat → Int × Int
  | 0 => (-1 - (m : Int), 1)
  | 1 => ((k : Int) + 1 + (m : Int), 1)
  | 2 => (0, -(m : Int))
  | _ => ((k : Int), -(m : Int))
theorem refX_bad (m k : Nat) (n : Nat) (hn : n < 4) : (refX m k n).1 < 0 ∨ (k : Int) < (refX m k n).1 ∨ (refX m k n).2 < 1 := by
  match n, hn with
  | 0, _ => simp only [refX]; omega
  | 1, _ => simp only [refX]; omega
  | 2, _ => simp only [refX]; omega
  | 3, _ => simp only [refX]; omega
theorem zero_exact (w : World) : Calls Tryz.prog 42 #[S3.sV zS (.slice none 0 0) (.slice none 0 0) (.slice none 0 0), S3.sV zS (.slice none 0 0) (.slice none 0 0) (.slice none 0 0)] w fun e w' => e = .returned (.bool true) ∧ Below w.heap.size w w' := by
  have h := exactC_calls zS zS _ _ _ _ _ _ w (S3.ER.nil none 0) (S3.SR.nil none 0) (S3.SR.nil none 0) (S3.ER.nil none 0) (S3.SR.nil none 0) (S3.SR.nil none 0)
  rw [eqX_iff.2 rfl] at h
  exact h
set_option maxRecDepth 100000 in
set_option maxHeartbeats 8000000 in
theorem refuses_law (hWk : WorksR6) (l : TL) (A : Option Addr) (c : Nat) (_hlc : l.length ≤ c) (_hc : c ≤ 9223372036854775807) (m : Nat) (hm : m ≤ 65535) (w : World) (hT : TokL w w.heap.size (.slice A l.length c) l) (hG : Glob6 w) :
    Calls Tryz.prog 14 #[.slice A l.length c, .int .u16 (m : Int)] w fun e w' => e = .returned (.bool true) ∧ Below w.heap.size w w' := by
  have F := Lib.hid (few_calls hT)
  have HWk := Lib.hid hWk
  have HG := Lib.hid hG
  have HT := Lib.hid hT
  clear hG hWk hT
  go_enter Tryz.func14, Tryz.ntmps14
  try simp only [List.append_eq, List.cons_append, List.nil_append]
  go_wp2_with fail
  refine F.out.mono ?_
  rintro e w0 ⟨b, rfl, hb4, hb⟩
  have HBf := Lib.hid hb
  clear hb F
  cases b with
  | false =>
    go_wp2_with fail
    refine (HWk.out _ (HG.out.up HBf.out)).mono ?_
    rintro e w1 ⟨rfl, hb⟩
    have HB1 := Lib.hid (after HBf.out hb)
    clear hb
    go_wp2_with fail
    go_ret
    exact ⟨rfl, HB1.out⟩
  | true =>
    have hk := hb4 rfl
    clear hb4
    go_wp2_with fail
    have hcl : ∀ i, i < 4 → (w0.alloc (.cells (refT m l.length) 56)).cell? ⟨w0.heap.size, i * 2, none⟩ = some (.int .i64 (refX m l.length i).1) ∧ (w0.alloc (.cells (refT m l.length) 56)).cell? ⟨w0.heap.size, i * 2 + 1, none⟩ = some (.int .i64 (refX m l.length i).2) := fun i hi => by
      have q := fun j u h => S3.newCell w0 (refT m l.length) 56 j u h
      match i, hi with
      | 0, _ => exact ⟨q 0 _ rfl, q 1 _ rfl⟩
      | 1, _ => exact ⟨q 2 _ rfl, q 3 _ rfl⟩
      | 2, _ => exact ⟨q 4 _ rfl, q 5 _ rfl⟩
      | 3, _ => exact ⟨q 6 _ rfl, q 7 _ rfl⟩
    have hz1 : w0.heap.size < (w0.alloc (.cells (refT m l.length) 56)).heap.size := by simp
    have HB0 := Lib.hid (S3.bal w0 (.cells (refT m l.length) 56))
    unfold refT at hcl hz1 HB0
    have HCL := Lib.hid hcl
    clear hcl
    generalize w0.alloc (.cells #[.int .i64 (-1 - (m : Int)), .int .i64 1, .int .i64 ((l.length : Int) + 1 + (m : Int)), .int .i64 1, .int .i64 0, .int .i64 (-(m : Int)), .int .i64 (l.length : Int), .int .i64 (-(m : Int))] 56) = w1 at *
    go_loopw [45] (fun x wr => ∃ n : Nat, n ≤ 4 ∧ x = .int .i64 n ∧ Hid (Below w1.heap.size w1 wr)) (fun x _ => 4 - (intOf x).toNat)
    case atStart => exact ⟨0, by omega, rfl, Lib.hid (Below.refl _ _)⟩
    case round =>
      obtain ⟨n, hn, rfl, HW⟩ := hrel
      have hzw := HW.out.size
      by_cases hlt : n < 4
      · obtain ⟨d0, d1⟩ := HCL.out n hlt
        have d0 := (HW.out.cell (p := ⟨w0.heap.size, n * 2, none⟩) hz1).trans d0
        have d1 := (HW.out.cell (p := ⟨w0.heap.size, n * 2 + 1, none⟩) hz1).trans d1
        have hbad := refX_bad m l.length n hlt
        generalize refX m l.length n = xy at *
        obtain ⟨a1, a2⟩ := xy
        have HBAD := Lib.hid hbad
        clear hbad
        simp only at d0 d1
        go_wp2_with fail
        refine (sparse_range (n := l.length) (c := c) (A := A) a1 a2 HBAD.out).mono ?_
        rintro E w2 ⟨rfl, hb⟩
        have HB := Lib.hid ((HW.out.alloc HW.out.size (.cells #[.int .i64 a1, .int .i64 a2] 56)).trans (hb.mono (by simp; omega)))
        have e0 := (hb.cell (p := ⟨wr.heap.size, 0, none⟩) (by simp)).trans (S3.newCell wr #[.int .i64 a1, .int .i64 a2] 56 0 (.int .i64 a1) rfl)
        have e1 := (hb.cell (p := ⟨wr.heap.size, 1, none⟩) (by simp)).trans (S3.newCell wr #[.int .i64 a1, .int .i64 a2] 56 1 (.int .i64 a2) rfl)
        have hz2 := hb.size
        rw [S3.sz1] at hz2
        have hz3 : wr.heap.size < w2.heap.size := hz2
        clear hb
        go_wp2_with fail
        refine (sblock_range (n := l.length) (c := c) (A := A) a1 a2 HBAD.out).mono ?_
        rintro E w3 ⟨rfl, hb⟩
        have HBx := Lib.hid ((HB.out.alloc HB.out.size (S3.sO zS (.slice none 0 0) (.slice none 0 0) (.slice none 0 0))).trans (hb.mono (by have := HB.out.size; simp; omega)))
        have X := (S3.SBox.new w2 zS (.slice none 0 0) (.slice none 0 0) (.slice none 0 0)).keep hb (by simp)
        obtain ⟨x0, x1, x2, x3, x4, x5, x6, x7⟩ := X
        clear hb HB
        go_wp2_with fail
        refine (zero_exact _).mono ?_
        rintro E w4 ⟨rfl, hb⟩
        have HBy := Lib.hid (HBx.out.trans (hb.mono HBx.out.size))
        clear hb
        go_wp2_with fail
        go_roundw
        case rel => exact ⟨n + 1, by omega, by go_num, HBy⟩
        case measure => simp [intOf]; omega
      · obtain rfl : n = 4 := by omega
        go_wp2_with fail
        have HW0 := Lib.hid (after (after HBf.out HB0.out) HW.out)
        have hP := sparse_calls (i := l.length) (d := 1) ((HT.out.bel HW0.out).keep (M' := wr.heap.size) HW0.out.size (fun _ _ _ => rfl)) (HG.out.up HW0.out).e (Nat.le_refl _) (HG.out.up HW0.out).g (by omega) (Nat.le_refl _)
        rw [show depS 1 = 1 from rfl, stR_end l 1] at hP
        refine hP.mono ?_
        clear hP
        rintro E w2 ⟨rfl, hb⟩
        have HW1 := Lib.hid ((after HW0.out hb).alloc (Nat.le_trans HW0.out.size hb.size) (S3.sO zS (.slice none 0 0) (.slice none 0 0) (.slice none 0 0)))
        clear hb
        go_wp2_with fail
        generalize w2.alloc (S3.sO zS (.slice none 0 0) (.slice none 0 0) (.slice none 0 0)) = w3 at *
        have hP := sblock_calls (i := l.length) (d := 1 + m) ((HT.out.bel HW1.out).keep (M' := w3.heap.size) HW1.out.size (fun _ _ _ => rfl)) (HG.out.up HW1.out).e (Nat.le_refl _) (HG.out.up HW1.out).g (by omega) (by omega)
        rw [blR_end l _] at hP
        rw [show (1 : Int) + (m : Int) = ((1 + m : Nat) : Int) by omega]
        refine hP.mono ?_
        clear hP
        rintro E w4 ⟨rfl, hb⟩
        have HW2 := Lib.hid (after HW1.out hb)
        clear hb
        go_wp2_with fail
        refine (HWk.out _ (HG.out.up HW2.out)).mono ?_
        rintro E w5 ⟨rfl, hb⟩
        have HW3 := Lib.hid (after HW2.out hb)
        clear hb
        go_wp2_with fail
        go_ret
        exact ⟨rfl, HW3.out⟩
end Go.Proofs.YtoldhocdfkndbaaGreatDoor.E6
