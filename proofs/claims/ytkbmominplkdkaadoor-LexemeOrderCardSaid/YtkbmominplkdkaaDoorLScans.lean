/-
  LexemeScans: its walk.
-/
import Derived.Test.YtkbmominplkdkaaDoorLWorks
namespace Go.Proofs.YtkbmominplkdkaaDoor
open Go Go.RowKit Go.Sort

def scL (s : Bytes) : List Tk := match (scan s).2 with | none => (scan s).1 | some _ => []
def scA (s : Bytes) : Int := match (scan s).2 with | none => 0 | some a => (a : Int)
def scE (s : Bytes) : Int := match (scan s).2 with | none => 0 | some _ => 7
theorem ScanE.all {base : Nat} {T : TypeId} {s : Bytes} {e : Ending} {w' : World} (h : ScanE base T s e w') :
    ∃ A c, e = .returned (.tuple #[.slice A (scL s).length c, .int .i64 (scA s), .int .i64 (scE s)]) ∧ Toks w' (.slice A (scL s).length c) (scL s) ∧ (scL s).length ≤ 9223372036854775807 := by
  obtain ⟨h1, h2⟩ := h
  unfold scL scA scE
  cases hq : (scan s).2 with
  | some a => exact ⟨none, 0, h1 a hq, .inl ⟨rfl, _, _, rfl⟩, by simp⟩
  | none =>
    obtain ⟨v, he, ho⟩ := h2 hq
    have ht := Toks.of_own ho
    obtain ⟨A, c, rfl⟩ := ht.slice
    refine ⟨A, c, he, ht, ?_⟩
    rcases ho.2 with ⟨_, h⟩ | ⟨g, cap, cur, _, _, _, h3, h4, _⟩
    · simp only; rw [h]; omega
    · unfold maxLen at h4; simp only at h3 ⊢; omega

theorem walk_long (s : Bytes) (hl : 3000 < s.length) (w : World) (hG : Glob w) :
    Calls Tryd.prog 3 #[.string (B s)] w fun e w' => e = .returned (.bool true) ∧ Below w.heap.size w w' := by
  have C := Lib.hid (works_calls w hG)
  have d1 : (3000 : Int) < (s.length : Int) := by omega
  clear hG
  go_enter Tryd.func3, Tryd.ntmps3
  go_wp2_with fail
  refine C.out.mono ?_
  rintro e w1 ⟨rfl, hb⟩
  have HB := Lib.hid hb
  clear hb
  go_wp2_with fail
  go_ret
  exact ⟨rfl, HB.out⟩

set_option maxRecDepth 100000 in
set_option maxHeartbeats 4000000 in
theorem walk_short (s : Bytes) (hl : s.length ≤ 3000) (w : World) (hG : Glob w) :
    Calls Tryd.prog 3 #[.string (B s)] w fun e w' => e = .returned (.bool true) ∧ Below w.heap.size w w' := by
  have d1 : ¬ (3000 : Int) < (s.length : Int) := by omega
  have C1 := Lib.hid (scan_calls s (by omega) w hG)
  have C2 := Lib.hid (fun W => refScan_calls s (by omega) W)
  have H := Lib.hid (fun (W : World) (h : Below w.heap.size w W) => works_calls W (hG.below h))
  clear hG
  go_enter Tryd.func3, Tryd.ntmps3
  go_wp2_with fail
  refine C1.out.mono ?_
  rintro e w1 ⟨hb1, hs1⟩
  obtain ⟨A1, k1, rfl, ht1, hn⟩ := hs1.all
  have B1 := Lib.hid hb1
  have T1 := Lib.hid ht1
  clear hb1 hs1 ht1 C1
  go_wp2_with fail
  refine (C2.out _).mono ?_
  rintro e w2 ⟨hb2, hs2⟩
  obtain ⟨A2, k2, rfl, ht2, -⟩ := hs2.all
  have B2 := Lib.hid (B1.out.trans (hb2.mono B1.out.size))
  have T1 := Lib.hid (T1.out.below hb2)
  have T2 := Lib.hid ht2
  clear hb2 hs2 ht2 C2
  generalize scL s = l at *
  generalize scA s = i at *
  generalize scE s = z at *
  go_wp2_with fail
  go_loopw [9] (fun x wr => ∃ i : Nat, i ≤ l.length ∧ x = .int .i64 i ∧ Hid (Below w2.heap.size w2 wr)) (fun x _ => l.length - (intOf x).toNat)
  case atStart => exact ⟨0, by omega, rfl, Lib.hid (Below.refl _ _)⟩
  case round =>
    obtain ⟨i, hi, rfl, HR⟩ := hrel
    by_cases hlt : i < l.length
    · obtain ⟨x, hx⟩ : ∃ x, l[i]? = some x := ⟨_, List.getElem?_eq_getElem hlt⟩
      rcases T1.out.below HR.out with ⟨h0, _⟩ | ⟨_, b, o, c2, hA, hbl, hc⟩
      · rw [h0] at hlt; simp at hlt
      cases hA
      rcases T2.out.below HR.out with ⟨h0, _⟩ | ⟨_, b', o', c3, hA, hbl', hc'⟩
      · rw [h0] at hlt; simp at hlt
      cases hA
      have k1 := fun d os => (TkR (hc i x hx) d os).1
      have k2 := fun d os => (TkR (hc i x hx) d os).2.1
      have k3 := fun d os => (TkR (hc i x hx) d os).2.2
      have k4 := fun d os => (TkR (hc' i x hx) d os).1
      have k5 := fun d os => (TkR (hc' i x hx) d os).2.1
      have k6 := fun d os => (TkR (hc' i x hx) d os).2.2
      clear hc hc' hbl hbl' hx
      go_wp2_with fail
      refine wp_region_quiet_below (by kernel_rfl) (by kernel_rfl) ?_
      repeat (first | go_big_quiet_step (fail) | quiet_step (fail))
      refine wpQuiet_nil ?_
      intro _ hw'
      obtain ⟨⟨dq, osq⟩, hw''⟩ := hw'
      subst hw''
      have HR := Lib.hid (HR.out.trans ((below_regrown wr dq osq).mono HR.out.size))
      clear k1 k2 k3 k4 k5 k6
      generalize grow (redrawn wr dq) osq = wz at *
      go_wp2_with fail
      go_roundw
      case rel => exact ⟨i + 1, by omega, by go_num, HR⟩
      case measure => simp [intOf]; omega
    · obtain rfl : i = l.length := by omega
      have B3 := Lib.hid (B2.out.trans (HR.out.mono B2.out.size))
      go_wp2_with fail
      refine (H.out _ B3.out).mono ?_
      rintro e w4 ⟨rfl, hb⟩
      have B4 := Lib.hid (B3.out.trans (hb.mono B3.out.size))
      clear hb
      go_wp2_with fail
      go_ret
      exact ⟨rfl, B4.out⟩
end Go.Proofs.YtkbmominplkdkaaDoor
namespace Go.Proofs.YtkbmominplkdkaaDoor.scans
open Go Go.RowKit
theorem law (s : ByteArray) (_hm : s.size ≤ 9223372036854775807) (w : World) (hG : Glob w) :
    Calls Tryd.prog 3 #[.string s] w fun e w' => e = .returned (.bool true) ∧ Below w.heap.size w w' := by
  rcases Nat.lt_or_ge 3000 s.data.toList.length with h | h
  · exact walk_long s.data.toList h w hG
  · exact walk_short s.data.toList h w hG
end Go.Proofs.YtkbmominplkdkaaDoor.scans
