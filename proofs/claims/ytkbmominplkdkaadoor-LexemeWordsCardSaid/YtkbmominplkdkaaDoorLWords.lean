/-
  LexemeWords: its walk.
-/
import Derived.Test.YtkbmominplkdkaaDoorLWorks
namespace Go.Proofs.YtkbmominplkdkaaDoor
open Go Go.RowKit Go.Sort

/-- A block of signs, from the i-th on; it may be written. -/
structure SgAt (w : World) (N i : Nat) : Prop where
  lt : N < w.heap.size
  free : ∀ j, w.frozen? ⟨N, j, none⟩ = false
  cell : ∀ j, i ≤ j → j < 23 → w.cell? ⟨N, j, none⟩ = some (.string (B (sgL.getD j [])))
theorem frozen_below {w w' : World} {N j : Nat} (hN : N < w.heap.size) (hb : Below w.heap.size w w') : w'.frozen? ⟨N, j, none⟩ = w.frozen? ⟨N, j, none⟩ := by
  unfold World.frozen?
  rw [hb.block N hN]
theorem SgAt.below {w w' : World} {N i : Nat} (h : SgAt w N i) (hb : Below w.heap.size w w') : SgAt w' N i :=
  ⟨Nat.lt_of_lt_of_le h.lt hb.size, fun j => (frozen_below h.lt hb).trans (h.free j), fun j h1 h2 => (hb.cell (p := ⟨N, j, none⟩) h.lt).trans (h.cell j h1 h2)⟩
theorem SgAt.set {w : World} {N i : Nat} (h : SgAt w N i) (v : Value) : SgAt (w.setCell ⟨N, i, none⟩ v) N (i + 1) :=
  ⟨by simpa using h.lt, fun j => by rw [World.frozen?_setCell]; exact h.free j, fun j h1 h2 =>
    (World.cell?_setCell_other (w := w) (a := ⟨N, i, none⟩) (b := ⟨N, j, none⟩) (v := v) (by intro e; have := congrArg Addr.off e; simp at this; omega)).trans (h.cell j (by omega) h2)⟩
theorem SgAt.new (w : World) : SgAt (w.alloc (.cells sgRow 51)) w.heap.size 0 :=
  ⟨by simp, fun j => by unfold World.frozen?; rw [heap_alloc_new]; simp, fun j _ h2 => by rw [cell_of_row _ _ j _ _ _ (heap_alloc_new w _)]; exact sgRow_at j h2⟩
theorem signsN_calls (w : World) (hG : GlobSG w) :
    Calls Tryd.prog 12 #[] w fun e w' => e = .returned (.slice (some ⟨w.heap.size, 0, none⟩) 23 23) ∧ Below w.heap.size w w' ∧ SgAt w' w.heap.size 0 := by
  refine (signs_any w sgRow (sg_range hG) rfl (by decide +kernel)).mono ?_
  rintro e w' ⟨rfl, rfl⟩
  exact ⟨rfl, (Below.refl _ w).alloc (Nat.le_refl _) _, SgAt.new w⟩

theorem words_long (s : Bytes) (hl : 100 < s.length) (w : World) (hG : Glob w) :
    Calls Tryd.prog 4 #[.string (B s)] w fun e w' => e = .returned (.bool true) ∧ Below w.heap.size w w' := by
  have C := Lib.hid (works_calls w hG)
  have d1 : (100 : Int) < (s.length : Int) := by omega
  clear hG
  go_enter Tryd.func4, Tryd.ntmps4
  go_wp2_with fail
  refine C.out.mono ?_
  rintro e w1 ⟨rfl, hb⟩
  have HB := Lib.hid hb
  clear hb
  go_wp2_with fail
  go_ret
  exact ⟨rfl, HB.out⟩

set_option maxRecDepth 100000 in
set_option maxHeartbeats 4000000 in
theorem words_short (s : Bytes) (hl : s.length ≤ 100) (w : World) (hG : Glob w) :
    Calls Tryd.prog 4 #[.string (B s)] w fun e w' => e = .returned (.bool true) ∧ Below w.heap.size w w' := by
  have d1 : ¬ (100 : Int) < (s.length : Int) := by omega
  have H := Lib.hid (fun (W : World) (h : Below w.heap.size w W) => hG.below h)
  have C1 := Lib.hid (signsN_calls w hG.sg)
  have C2 := fun W h => reserved_calls s W h
  have C3 := fun W => refReserved_calls s W
  clear hG
  generalize kwB s = q at *
  have C2 := Lib.hid C2
  have C3 := Lib.hid C3
  go_enter Tryd.func4, Tryd.ntmps4
  go_wp2_with fail
  refine C1.out.mono ?_
  rintro e w1 ⟨rfl, hb1, hs1⟩
  have B1 := Lib.hid hb1
  have S1 := Lib.hid hs1
  have l1 := hs1.lt
  clear hb1 hs1 C1
  go_wp2_with fail
  refine (refSigns_calls _).mono ?_
  rintro e w2 ⟨rfl, hb2, hs2⟩
  have B2 := Lib.hid (B1.out.trans (hb2.mono B1.out.size))
  have S1 := Lib.hid (S1.out.below hb2)
  have l2 : w1.heap.size < w2.heap.size := World.block_lt_of_cell? _ _ (hs2 0 (by decide))
  have S2 := Lib.hid hs2
  clear hb2 hs2
  have hne : w.heap.size ≠ w1.heap.size := by omega
  generalize hM : w1.heap.size = M at *
  go_wp2_with fail
  refine (C2.out _ (H.out _ B2.out).kw).mono ?_
  rintro e w2' ⟨rfl, rfl⟩
  go_wp2_with fail
  refine (C3.out _).mono ?_
  rintro e w3 ⟨rfl, hb3⟩
  have B3 := Lib.hid (B2.out.trans (hb3.mono B2.out.size))
  have S1 := Lib.hid (S1.out.below hb3)
  have S2 := Lib.hid (fun j hj => (hb3.cell (p := ⟨M, j, none⟩) l2).trans (S2.out j hj))
  have l3 : M < w3.heap.size := Nat.lt_of_lt_of_le l2 hb3.size
  have hq : (q != q) = false := by simp
  clear hb3 C2 C3
  go_wp2_with fail
  go_loopw [5] (fun x wr => ∃ i : Nat, i ≤ 23 ∧ x = .int .i64 i ∧ Hid (SgAt wr w.heap.size i) ∧ Hid (∀ j, j < 23 → wr.cell? ⟨M, j, none⟩ = some (.string (B (sgL.getD j [])))) ∧ M < wr.heap.size ∧ Hid (Below w.heap.size w wr)) (fun x _ => 23 - (intOf x).toNat)
  case atStart => exact ⟨0, by omega, rfl, S1, S2, l3, B3⟩
  case round =>
    obtain ⟨i, hi, rfl, HS, HM, hlM, HR⟩ := hrel
    by_cases hlt : i < 23
    · have y1 := HS.out.cell i (Nat.le_refl _) hlt
      have y2 := HM.out i hlt
      generalize sgL.getD i [] = t at *
      have k1 := fun d os => cell_regrown y1 d os
      have k2 := fun d os => cell_regrown y2 d os
      clear y1 y2
      go_wp2_with fail
      refine wp_region_quiet_below (by kernel_rfl) (by kernel_rfl) ?_
      repeat (first | go_big_quiet_step (fail) | quiet_step (fail))
      refine wpQuiet_nil ?_
      intro _ hw'
      obtain ⟨⟨dq, osq⟩, hw''⟩ := hw'
      subst hw''
      have hz := below_regrown wr dq osq
      have HR := Lib.hid (HR.out.trans (hz.mono HR.out.size))
      have HS2 := HS.out.below hz
      have HM2 := Lib.hid (fun j hj => (hz.cell (p := ⟨M, j, none⟩) hlM).trans (HM.out j hj))
      have hlM2 := Nat.lt_of_lt_of_le hlM hz.size
      have y1 := k1 dq osq
      have yf := HS2.free i
      have HS3 := Lib.hid (HS2.set (.string ⟨#[120]⟩))
      have HS2 := Lib.hid HS2
      have HM3 := Lib.hid (fun j hj => (World.cell?_setCell_other (w := grow (redrawn wr dq) osq) (a := ⟨w.heap.size, i, none⟩) (b := ⟨M, j, none⟩) (v := .string ⟨#[120]⟩) (by intro e; exact hne (congrArg Addr.block e))).trans (HM2.out j hj))
      clear k1 k2 hz HS2 HM2
      generalize grow (redrawn wr dq) osq = wz at *
      go_wp2_with fail
      go_roundw
      case rel => exact ⟨i + 1, by omega, by go_num, HS3, HM3, by simpa using hlM2, Lib.hid (HR.out.setCell (p := ⟨w.heap.size, i, none⟩) (Nat.le_refl _) _)⟩
      case measure => simp [intOf]; omega
    · obtain rfl : i = 23 := by omega
      have C4 := Lib.hid (signsN_calls wr (H.out _ HR.out).sg)
      go_wp2_with fail
      refine C4.out.mono ?_
      rintro e w4 ⟨rfl, hb4, hs4⟩
      have B4 := Lib.hid (HR.out.trans (hb4.mono HR.out.size))
      have y0 := hs4.cell 0 (Nat.le_refl _) (by decide)
      have y0 : w4.cell? ⟨wr.heap.size, 0, none⟩ = some (.string ⟨#[124, 124]⟩) := y0
      clear hb4 hs4 C4
      go_wp2_with fail
      refine (works_calls _ (H.out _ B4.out)).mono ?_
      rintro e w5 ⟨rfl, hb⟩
      have B5 := Lib.hid (B4.out.trans (hb.mono B4.out.size))
      clear hb
      go_wp2_with fail
      go_ret
      exact ⟨rfl, B5.out⟩
end Go.Proofs.YtkbmominplkdkaaDoor
namespace Go.Proofs.YtkbmominplkdkaaDoor.words
open Go Go.RowKit
theorem law (s : ByteArray) (_hm : s.size ≤ 9223372036854775807) (w : World) (hG : Glob w) :
    Calls Tryd.prog 4 #[.string s] w fun e w' => e = .returned (.bool true) ∧ Below w.heap.size w w' := by
  rcases Nat.lt_or_ge 100 s.data.toList.length with h | h
  · exact words_long s.data.toList h w hG
  · exact words_short s.data.toList h w hG
end Go.Proofs.YtkbmominplkdkaaDoor.words
