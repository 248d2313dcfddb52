/-
  ExprRefuses, its examples' contract given.
  ExprRefuses: the law returns true.
-/
import Derived.Test.YtoldhocdfkndbaaGreatDoorEDeep
import Derived.Test.YtoldhocdfkndbaaGreatDoorEWorks
namespace Go.Proofs.YtoldhocdfkndbaaGreatDoor.E5
open Go Go.RowKit Go.Proofs.YtoldhocdfkndbaaGreatDoor

theorem repB_none : ∀ k ∈ List.range 50, opB (repB [43] (2 + k)) = (0, 0) := by decide +kernel
def refT (m k : Nat) : Array Value := #[.int .i64 (-1 - (m : Int)), .int .i64 0, .int .i64 ((k : Int) + 1 + (m : Int)), .int .i64 0, .int .i64 0, .int .i64 (-1 - (m : Int)), .int .i64 9223372036854775807, .int .i64 5, .int .i64 (-9223372036854775808), .int .i64 (-9223372036854775808)]
def refX (m k : Nat) : Nat → Int × Int
  | 0 => (-1 - (m : Int), 0)
  | 1 => ((k : Int) + 1 + (m : Int), 0)
  | 2 => (0, -1 - (m : Int))
  | 3 => (9223372036854775807, 5)
  | _ => (-9223372036854775808, -9223372036854775808)
theorem refX_bad (m k : Nat) (hk : k ≤ 10) (n : Nat) (hn : n < 5) : (refX m k n).1 < 0 ∨ (k : Int) < (refX m k n).1 ∨ (refX m k n).2 < 0 := by
  match n, hn with
  | 0, _ => simp only [refX]; omega
  | 1, _ => simp only [refX]; omega
  | 2, _ => simp only [refX]; omega
  | 3, _ => simp only [refX]; omega
  | 4, _ => simp only [refX]; omega
set_option maxRecDepth 100000 in
set_option maxHeartbeats 4000000 in
theorem refuses_law (hWk : WorksR) (m : Nat) (hm : m ≤ 65535) (l : TL) (A : Option Addr) (c : Nat) (hlc : l.length ≤ c) (hc : c ≤ 9223372036854775807) (w : World) (hT : TokL w w.heap.size (.slice A l.length c) l) (hG : GlobA w) :
    Calls Tryz.prog 8 #[.int .u16 (m : Int), .slice A l.length c] w fun e w' => e = .returned (.bool true) ∧ Below w.heap.size w w' := by
  obtain ⟨k, hk, hkl, hk10⟩ : ∃ k : Nat, min (l.length : Int) 10 = (k : Int) ∧ k ≤ l.length ∧ k ≤ 10 := ⟨min l.length 10, by omega, by omega, by omega⟩
  have hkc : k ≤ c := by omega
  have HWk := Lib.hid hWk
  have HG := Lib.hid hG
  have HT := Lib.hid (hT.take hkl)
  clear hG hWk hT
  go_enter Tryz.func8, Tryz.ntmps8
  go_wp2_with fail
  have hcl : ∀ i, i < 5 → (w.alloc (.cells (refT m k) 56)).cell? ⟨w.heap.size, i * 2, none⟩ = some (.int .i64 (refX m k i).1) ∧ (w.alloc (.cells (refT m k) 56)).cell? ⟨w.heap.size, i * 2 + 1, none⟩ = some (.int .i64 (refX m k i).2) := fun i hi => by
    have q := fun j u h => S3.newCell w (refT m k) 56 j u h
    match i, hi with
    | 0, _ => exact ⟨q 0 _ rfl, q 1 _ rfl⟩
    | 1, _ => exact ⟨q 2 _ rfl, q 3 _ rfl⟩
    | 2, _ => exact ⟨q 4 _ rfl, q 5 _ rfl⟩
    | 3, _ => exact ⟨q 6 _ rfl, q 7 _ rfl⟩
    | 4, _ => exact ⟨q 8 _ rfl, q 9 _ rfl⟩
  have hz1 : w.heap.size < (w.alloc (.cells (refT m k) 56)).heap.size := by simp
  have HB0 := Lib.hid (S3.bal w (.cells (refT m k) 56))
  unfold refT at hcl hz1 HB0
  have HCL := Lib.hid hcl
  clear hcl
  generalize w.alloc (.cells #[.int .i64 (-1 - (m : Int)), .int .i64 0, .int .i64 ((k : Int) + 1 + (m : Int)), .int .i64 0, .int .i64 0, .int .i64 (-1 - (m : Int)), .int .i64 9223372036854775807, .int .i64 5, .int .i64 (-9223372036854775808), .int .i64 (-9223372036854775808)] 56) = w1 at *
  go_loopw [45] (fun x wr => ∃ n : Nat, n ≤ 5 ∧ x = .int .i64 n ∧ Hid (Below w1.heap.size w1 wr)) (fun x _ => 5 - (intOf x).toNat)
  case atStart => exact ⟨0, by omega, rfl, Lib.hid (Below.refl _ _)⟩
  case round =>
    obtain ⟨n, hn, rfl, HW⟩ := hrel
    have hzw := HW.out.size
    by_cases hlt : n < 5
    · obtain ⟨d0, d1⟩ := HCL.out n hlt
      have d0 := (HW.out.cell (p := ⟨w.heap.size, n * 2, none⟩) hz1).trans d0
      have d1 := (HW.out.cell (p := ⟨w.heap.size, n * 2 + 1, none⟩) hz1).trans d1
      have hbad := refX_bad m k hk10 n hlt
      generalize refX m k n = xy at *
      obtain ⟨a1, a2⟩ := xy
      have HBAD := Lib.hid hbad
      clear hbad
      simp only at d0 d1
      go_wp2_with fail
      refine (parse_range (n := k) (c := c) (A := A) a1 a2 HBAD.out).mono ?_
      rintro E w2 ⟨rfl, hb⟩
      have HB := Lib.hid ((HW.out.alloc HW.out.size (.cells #[.int .i64 a1, .int .i64 a2] 56)).trans (hb.mono (by simp; omega)))
      have e0 := (hb.cell (p := ⟨wr.heap.size, 0, none⟩) (by simp)).trans (S3.newCell wr #[.int .i64 a1, .int .i64 a2] 56 0 (.int .i64 a1) rfl)
      have e1 := (hb.cell (p := ⟨wr.heap.size, 1, none⟩) (by simp)).trans (S3.newCell wr #[.int .i64 a1, .int .i64 a2] 56 1 (.int .i64 a2) rfl)
      have hz2 := hb.size
      rw [S3.sz1] at hz2
      have hz3 : wr.heap.size < w2.heap.size := hz2
      clear hb
      go_wp2_with fail
      refine (list_range (n := k) (c := c) (A := A) a1 a2 HBAD.out).mono ?_
      rintro E w3 ⟨rfl, hb⟩
      have HBx := Lib.hid ((HB.out.alloc HB.out.size (S3.eO zE (.slice none 0 0))).trans (hb.mono (by have := HB.out.size; simp; omega)))
      have x0 := (hb.cell (p := ⟨w2.heap.size, 0, none⟩) (by simp)).trans (S3.EBox.new w2 zE (.slice none 0 0)).c0
      have x1 := (hb.cell (p := ⟨w2.heap.size, 1, none⟩) (by simp)).trans (S3.EBox.new w2 zE (.slice none 0 0)).c1
      have x2 := (hb.cell (p := ⟨w2.heap.size, 2, none⟩) (by simp)).trans (S3.EBox.new w2 zE (.slice none 0 0)).c2
      have x3 := (hb.cell (p := ⟨w2.heap.size, 3, none⟩) (by simp)).trans (S3.EBox.new w2 zE (.slice none 0 0)).c3
      have x4 := (hb.cell (p := ⟨w2.heap.size, 4, none⟩) (by simp)).trans (S3.EBox.new w2 zE (.slice none 0 0)).c4
      clear hb HB
      go_wp2_with fail
      refine (same_zero _).mono ?_
      rintro E w4 ⟨rfl, hb⟩
      have HBy := Lib.hid (HBx.out.trans (hb.mono HBx.out.size))
      clear hb
      go_wp2_with fail
      go_roundw
      case rel => exact ⟨n + 1, by omega, by go_num, HBy⟩
      case measure => simp [intOf]; omega
    · obtain rfl : n = 5 := by omega
      go_wp2_with fail
      have HW0 := Lib.hid (HB0.out.trans (HW.out.mono HB0.out.size))
      have HT1 := Lib.hid ((HT.out.bel HW0.out).keep (M' := wr.heap.size) HW0.out.size (fun _ _ _ => rfl))
      have hkt : (l.take k).length = k := by simp; omega
      have hP := parse_calls (i := k) (d := 0) HT1.out (HG.out.up HW0.out).e (by omega) (by decide)
      rw [show parseR (l.take k) k 0 = .bad k 7 by have := parseR_end (l.take k) 0; rwa [hkt] at this] at hP
      refine hP.mono ?_
      clear hP
      rintro E w2 ⟨rfl, hb⟩
      have HW1 := Lib.hid ((HW0.out.trans (hb.mono HW0.out.size)).alloc (Nat.le_trans HW0.out.size hb.size) (S3.eO zE (.slice none 0 0)))
      clear hb HT1
      go_wp2_with fail
      generalize w2.alloc (S3.eO zE (.slice none 0 0)) = w3 at *
      have HT2 := Lib.hid ((HT.out.bel HW1.out).keep (M' := w3.heap.size) HW1.out.size (fun _ _ _ => rfl))
      have hP := list_calls (i := k) (d := m) HT2.out (HG.out.up HW1.out).e (by omega) (by omega) (by omega)
      rw [show listR (l.take k) k m = .bad k 7 by have := listR_end (l.take k) m; rwa [hkt] at this] at hP
      refine hP.mono ?_
      clear hP
      rintro E w4 ⟨rfl, hb⟩
      have HW2 := Lib.hid (HW1.out.trans (hb.mono HW1.out.size))
      clear hb HT2
      go_wp2_with fail
      have hk5 := repB_none (m % 50) (List.mem_range.2 (by omega))
      rw [show (2 : Int) + (m : Int) % 50 = ((2 + m % 50 : Nat) : Int) by omega]
      refine (rep_any [43] (2 + m % 50) _ (by omega) (by decide)).mono ?_
      rintro E w5 ⟨rfl, hb⟩
      have HW3 := Lib.hid (HW2.out.trans (hb.mono HW2.out.size))
      clear hb
      go_wp2_with fail
      refine (op_calls (repB [43] (2 + m % 50)) _ (HG.out.up HW3.out).e.o).mono ?_
      rw [hk5]
      rintro E w6 ⟨rfl, hb⟩
      have HW4 := Lib.hid (HW3.out.trans (hb.mono HW3.out.size))
      clear hb hk5
      go_wp2_with fail
      refine (sign_calls (-(m : Int)) _ (HG.out.up HW4.out).e.o).mono ?_
      rw [signB_none (.inl (by omega))]
      rintro E w7 ⟨rfl, hb⟩
      have HW5 := Lib.hid (HW4.out.trans (hb.mono HW4.out.size))
      clear hb
      go_wp2_with fail
      refine (sign_calls (16 + (m : Int)) _ (HG.out.up HW5.out).e.o).mono ?_
      rw [signB_none (.inr (by omega))]
      rintro E w8 ⟨rfl, hb⟩
      have HW6 := Lib.hid (HW5.out.trans (hb.mono HW5.out.size))
      clear hb
      go_wp2_with fail
      refine (HWk.out _ (HG.out.up HW6.out)).mono ?_
      rintro E w9 ⟨rfl, hb⟩
      have HW7 := Lib.hid (HW6.out.trans (hb.mono HW6.out.size))
      clear hb
      go_wp2_with fail
      go_ret
      exact ⟨rfl, HW7.out⟩
end Go.Proofs.YtoldhocdfkndbaaGreatDoor.E5

namespace Go.Proofs.YtoldhocdfkndbaaGreatDoor.E5.refuses
open Go Go.RowKit Go.Proofs.YtoldhocdfkndbaaGreatDoor Go.Proofs.YtoldhocdfkndbaaGreatDoor.E5

theorem law (m : Nat) (hm : m ≤ 65535) (l : TL) (A : Option Addr) (c : Nat) (hlc : l.length ≤ c) (hc : c ≤ 9223372036854775807) (w : World) (hT : TokL w w.heap.size (.slice A l.length c) l) (hG : GlobA w) :
    Calls Tryz.prog 8 #[.int .u16 (m : Int), .slice A l.length c] w fun e w' => e = .returned (.bool true) ∧ Below w.heap.size w w' := refuses_law ops.worksR m hm l A c hlc hc w hT hG
end Go.Proofs.YtoldhocdfkndbaaGreatDoor.E5.refuses
