/-
  token: its contract.
-/
import Derived.Test.YtoldhocdfkndbaaGreatDoorLSg
import Derived.BigRegion
import Derived.Deep.RegionWith
namespace Go.Proofs.YtoldhocdfkndbaaGreatDoor.L4
open Go Go.RowKit Go.Sort

/-- A token's struct value; without one, the zero value. -/
def tkV (p : Int × Bytes) (a : Nat) : Value := if p.1 = 0 then .agg #[.int .i64 0, .string ⟨#[]⟩, .int .i64 0] else .agg #[.int .i64 p.1, .string (B p.2), .int .i64 a]
theorem Glob.alloc {w : World} (h : Glob w) (o : Obj) : Glob (w.alloc o) := h.below ((Below.refl _ w).alloc (Nat.le_refl _) o)

def TokAt (w : World) (b : Nat) (c0 c1 c2 : Value) : Prop := w.heap[b]? = some (.cells #[c0, c1, c2] 44)
theorem TokAt.at_ {w : World} {b : Nat} {c0 c1 c2 : Value} (h : TokAt w b c0 c1 c2) : w.cell? ⟨b, 0, none⟩ = some c0 ∧ w.cell? ⟨b, 1, none⟩ = some c1 ∧ w.cell? ⟨b, 2, none⟩ = some c2 := by
  refine ⟨?_, ?_, ?_⟩ <;> rw [cell_of_row _ _ _ _ _ _ h] <;> rfl
theorem TokAt.free {w : World} {b : Nat} {c0 c1 c2 : Value} (h : TokAt w b c0 c1 c2) (i : Nat) : w.frozen? ⟨b, i, none⟩ = false := by
  unfold World.frozen?
  rw [show w.heap[(⟨b, i, none⟩ : Addr).block]? = _ from h]
  simp
theorem TokAt.below {w w' : World} {b : Nat} {c0 c1 c2 : Value} (h : TokAt w b c0 c1 c2) (hb : Below w.heap.size w w') : TokAt w' b c0 c1 c2 := by
  have hl : b < w.heap.size := by
    rcases Nat.lt_or_ge b w.heap.size with h1 | h1
    · exact h1
    · unfold TokAt at h; rw [Array.getElem?_eq_none h1] at h; cases h
  exact (hb.block b hl).trans h
theorem TokAt.new (w : World) (c0 c1 c2 : Value) : TokAt (w.alloc (.cells #[c0, c1, c2] 44)) w.heap.size c0 c1 c2 := heap_alloc_new w _
set_option maxHeartbeats 1000000 in
theorem token_kw (s : Bytes) (a : Nat) (ha : a ≤ s.length) (_hs : s.length ≤ 281474976710656) (w : World) (hG : Glob w) (r g : Bytes) (_hrl : r.length ≤ 281474976710656)
    (hC1 : ∀ W, Calls Tryz.prog 134 #[.string ((B s).extract a (B s).size)] W fun e w' => e = .returned (.string (B r)) ∧ W = w')
    (hC2 : ∀ W, GlobSG W → Calls Tryz.prog 135 #[.string ((B s).extract a (B s).size)] W fun e w' => e = .returned (.string (B g)) ∧ W = w')
    (hk : kwB r = true) :
    Calls Tryz.prog 89 #[.string (B s), .int .i64 a] w fun e w' => e = .returned (.tuple #[.agg #[.int .i64 3, .string (B r), .int .i64 a], .bool true]) ∧ Below w.heap.size w w' := by
  have C3 := fun W h => reserved_calls r W h
  rw [hk] at C3
  have C3 := Lib.hid C3
  have hsz : (B s).size = s.length := B_size s
  have C1 := Lib.hid (fun W => hC1 W)
  have C2 := Lib.hid (fun W h => hC2 W h)
  have HS := Lib.hid (fun (W : World) (h : Below w.heap.size w W) => hG.below h)
  have c1 : (0 : Int) ≤ (a : Int) := by omega
  have c2 : (a : Int) ≤ ((B s).size : Int) := by rw [hsz]; omega
  clear hG hC1 hC2
  go_enter Tryz.func89, Tryz.ntmps89
  go_wp2_with fail
  go_region_with (first | (go_at_call 134; refine (C1.out _).mono ?_; rintro e w1 ⟨rfl, rfl⟩) | (go_at_call 135; refine (C2.out _ (HS.out _ (by first | exact ((Below.refl _ w).alloc (Nat.le_refl _) _) | exact ((Below.refl _ w).alloc (Nat.le_refl _) _).trans ⟨rfl, rfl, rfl, Nat.le_refl _, fun _ _ => rfl⟩)).sg).mono ?_; rintro e w1 ⟨rfl, rfl⟩))
  all_goals
    go_wp2_with fail
    refine (C3.out _ (HS.out _ (by first | exact ((Below.refl _ w).alloc (Nat.le_refl _) _) | exact ((Below.refl _ w).alloc (Nat.le_refl _) _).trans ⟨rfl, rfl, rfl, Nat.le_refl _, fun _ _ => rfl⟩)).kw).mono ?_
    rintro e w1 ⟨rfl, rfl⟩
    go_wp2_with fail
    exact bodyPost_ret (v := .tuple #[.agg #[.int .i64 3, .string (B r), .int .i64 a], .bool true]) (by simp [results, Tryz.results89, go_sem]) rfl ⟨rfl, ((Below.refl _ w).alloc (Nat.le_refl _) _).trans ⟨rfl, rfl, rfl, Nat.le_refl _, fun _ _ => rfl⟩⟩
set_option maxHeartbeats 1000000 in
theorem token_nm (s : Bytes) (a : Nat) (ha : a ≤ s.length) (_hs : s.length ≤ 281474976710656) (w : World) (hG : Glob w) (r g : Bytes) (_hrl : r.length ≤ 281474976710656)
    (hC1 : ∀ W, Calls Tryz.prog 134 #[.string ((B s).extract a (B s).size)] W fun e w' => e = .returned (.string (B r)) ∧ W = w')
    (hC2 : ∀ W, GlobSG W → Calls Tryz.prog 135 #[.string ((B s).extract a (B s).size)] W fun e w' => e = .returned (.string (B g)) ∧ W = w')
    (hk : kwB r = false) (hn : nameB r = true) :
    Calls Tryz.prog 89 #[.string (B s), .int .i64 a] w fun e w' => e = .returned (.tuple #[.agg #[.int .i64 1, .string (B r), .int .i64 a], .bool true]) ∧ Below w.heap.size w w' := by
  have C3 := fun W h => reserved_calls r W h
  rw [hk] at C3
  have C3 := Lib.hid C3
  have C4 := fun W => nameOf_calls r (by omega) W
  rw [hn] at C4
  have C4 := Lib.hid C4
  have hsz : (B s).size = s.length := B_size s
  have C1 := Lib.hid (fun W => hC1 W)
  have C2 := Lib.hid (fun W h => hC2 W h)
  have HS := Lib.hid (fun (W : World) (h : Below w.heap.size w W) => hG.below h)
  have c1 : (0 : Int) ≤ (a : Int) := by omega
  have c2 : (a : Int) ≤ ((B s).size : Int) := by rw [hsz]; omega
  clear hG hC1 hC2
  go_enter Tryz.func89, Tryz.ntmps89
  go_wp2_with fail
  go_region_with (first | (go_at_call 134; refine (C1.out _).mono ?_; rintro e w1 ⟨rfl, rfl⟩) | (go_at_call 135; refine (C2.out _ (HS.out _ (by first | exact ((Below.refl _ w).alloc (Nat.le_refl _) _) | exact ((Below.refl _ w).alloc (Nat.le_refl _) _).trans ⟨rfl, rfl, rfl, Nat.le_refl _, fun _ _ => rfl⟩)).sg).mono ?_; rintro e w1 ⟨rfl, rfl⟩))
  all_goals
    go_wp2_with fail
    refine (C3.out _ (HS.out _ (by first | exact ((Below.refl _ w).alloc (Nat.le_refl _) _) | exact ((Below.refl _ w).alloc (Nat.le_refl _) _).trans ⟨rfl, rfl, rfl, Nat.le_refl _, fun _ _ => rfl⟩)).kw).mono ?_
    rintro e w1 ⟨rfl, rfl⟩
    go_wp2_with fail
    refine (C4.out _).mono ?_
    rintro e w1 ⟨rfl, rfl⟩
    go_wp2_with fail
    exact bodyPost_ret (v := .tuple #[.agg #[.int .i64 1, .string (B r), .int .i64 a], .bool true]) (by simp [results, Tryz.results89, go_sem]) rfl ⟨rfl, ((Below.refl _ w).alloc (Nat.le_refl _) _).trans ⟨rfl, rfl, rfl, Nat.le_refl _, fun _ _ => rfl⟩⟩
set_option maxHeartbeats 1000000 in
theorem token_nu (s : Bytes) (a : Nat) (ha : a ≤ s.length) (_hs : s.length ≤ 281474976710656) (w : World) (hG : Glob w) (r g : Bytes) (_hrl : r.length ≤ 281474976710656)
    (hC1 : ∀ W, Calls Tryz.prog 134 #[.string ((B s).extract a (B s).size)] W fun e w' => e = .returned (.string (B r)) ∧ W = w')
    (hC2 : ∀ W, GlobSG W → Calls Tryz.prog 135 #[.string ((B s).extract a (B s).size)] W fun e w' => e = .returned (.string (B g)) ∧ W = w')
    (hk : kwB r = false) (hn : nameB r = false) (hu : numB r = true) :
    Calls Tryz.prog 89 #[.string (B s), .int .i64 a] w fun e w' => e = .returned (.tuple #[.agg #[.int .i64 2, .string (B r), .int .i64 a], .bool true]) ∧ Below w.heap.size w w' := by
  have C3 := fun W h => reserved_calls r W h
  rw [hk] at C3
  have C3 := Lib.hid C3
  have C4 := fun W => nameOf_calls r (by omega) W
  rw [hn] at C4
  have C4 := Lib.hid C4
  have C5 := fun W h => number_calls r _hrl W h
  rw [hu] at C5
  have C5 := Lib.hid C5
  have hsz : (B s).size = s.length := B_size s
  have C1 := Lib.hid (fun W => hC1 W)
  have C2 := Lib.hid (fun W h => hC2 W h)
  have HS := Lib.hid (fun (W : World) (h : Below w.heap.size w W) => hG.below h)
  have c1 : (0 : Int) ≤ (a : Int) := by omega
  have c2 : (a : Int) ≤ ((B s).size : Int) := by rw [hsz]; omega
  clear hG hC1 hC2
  go_enter Tryz.func89, Tryz.ntmps89
  go_wp2_with fail
  go_region_with (first | (go_at_call 134; refine (C1.out _).mono ?_; rintro e w1 ⟨rfl, rfl⟩) | (go_at_call 135; refine (C2.out _ (HS.out _ (by first | exact ((Below.refl _ w).alloc (Nat.le_refl _) _) | exact ((Below.refl _ w).alloc (Nat.le_refl _) _).trans ⟨rfl, rfl, rfl, Nat.le_refl _, fun _ _ => rfl⟩)).sg).mono ?_; rintro e w1 ⟨rfl, rfl⟩))
  all_goals
    go_wp2_with fail
    refine (C3.out _ (HS.out _ (by first | exact ((Below.refl _ w).alloc (Nat.le_refl _) _) | exact ((Below.refl _ w).alloc (Nat.le_refl _) _).trans ⟨rfl, rfl, rfl, Nat.le_refl _, fun _ _ => rfl⟩)).kw).mono ?_
    rintro e w1 ⟨rfl, rfl⟩
    go_wp2_with fail
    refine (C4.out _).mono ?_
    rintro e w1 ⟨rfl, rfl⟩
    go_wp2_with fail
    refine (C5.out _ (HS.out _ (by first | exact ((Below.refl _ w).alloc (Nat.le_refl _) _) | exact ((Below.refl _ w).alloc (Nat.le_refl _) _).trans ⟨rfl, rfl, rfl, Nat.le_refl _, fun _ _ => rfl⟩))).mono ?_
    rintro e w5 ⟨rfl, hb5⟩
    have HB5 := Lib.hid (Below.trans (by first | exact ((Below.refl _ w).alloc (Nat.le_refl _) _) | exact ((Below.refl _ w).alloc (Nat.le_refl _) _).trans ⟨rfl, rfl, rfl, Nat.le_refl _, fun _ _ => rfl⟩) (hb5.mono (by simp)))
    have hT := TokAt.below (TokAt.new w (.int .i64 0) (.string ⟨#[]⟩) (.int .i64 0)) ⟨hb5.os, hb5.tape, hb5.output, hb5.size, hb5.block⟩
    obtain ⟨y0, y1, y2⟩ := hT.at_
    have yf := hT.free
    have hy := hT
    unfold TokAt at hy
    have hT := Lib.hid hT
    clear hb5 hy
    go_wp2_with fail
    exact bodyPost_ret (v := .tuple #[.agg #[.int .i64 2, .string (B r), .int .i64 a], .bool true]) (by simp [results, Tryz.results89, go_sem, y0, y1, y2]) rfl ⟨rfl, ((HB5.out.setCell (p := ⟨w.heap.size, 0, none⟩) (Nat.le_refl _) _).setCell (p := ⟨w.heap.size, 1, none⟩) (Nat.le_refl _) _).setCell (p := ⟨w.heap.size, 2, none⟩) (Nat.le_refl _) _⟩
set_option maxHeartbeats 1000000 in
theorem token_sg (s : Bytes) (a : Nat) (ha : a ≤ s.length) (_hs : s.length ≤ 281474976710656) (w : World) (hG : Glob w) (r g : Bytes) (_hrl : r.length ≤ 281474976710656)
    (hC1 : ∀ W, Calls Tryz.prog 134 #[.string ((B s).extract a (B s).size)] W fun e w' => e = .returned (.string (B r)) ∧ W = w')
    (hC2 : ∀ W, GlobSG W → Calls Tryz.prog 135 #[.string ((B s).extract a (B s).size)] W fun e w' => e = .returned (.string (B g)) ∧ W = w')
    (hk : kwB r = false) (hn : nameB r = false) (hu : numB r = false) (hg : g ≠ []) :
    Calls Tryz.prog 89 #[.string (B s), .int .i64 a] w fun e w' => e = .returned (.tuple #[.agg #[.int .i64 4, .string (B g), .int .i64 a], .bool true]) ∧ Below w.heap.size w w' := by
  obtain ⟨g0, gt, rfl⟩ : ∃ x y, g = x :: y := by cases g with | nil => exact absurd rfl hg | cons x y => exact ⟨x, y, rfl⟩
  have C3 := fun W h => reserved_calls r W h
  rw [hk] at C3
  have C3 := Lib.hid C3
  have C4 := fun W => nameOf_calls r (by omega) W
  rw [hn] at C4
  have C4 := Lib.hid C4
  have C5 := fun W h => number_calls r _hrl W h
  rw [hu] at C5
  have C5 := Lib.hid C5
  have hsz : (B s).size = s.length := B_size s
  have C1 := Lib.hid (fun W => hC1 W)
  have C2 := Lib.hid (fun W h => hC2 W h)
  have HS := Lib.hid (fun (W : World) (h : Below w.heap.size w W) => hG.below h)
  have c1 : (0 : Int) ≤ (a : Int) := by omega
  have c2 : (a : Int) ≤ ((B s).size : Int) := by rw [hsz]; omega
  clear hG hC1 hC2
  go_enter Tryz.func89, Tryz.ntmps89
  go_wp2_with fail
  go_region_with (first | (go_at_call 134; refine (C1.out _).mono ?_; rintro e w1 ⟨rfl, rfl⟩) | (go_at_call 135; refine (C2.out _ (HS.out _ (by first | exact ((Below.refl _ w).alloc (Nat.le_refl _) _) | exact ((Below.refl _ w).alloc (Nat.le_refl _) _).trans ⟨rfl, rfl, rfl, Nat.le_refl _, fun _ _ => rfl⟩)).sg).mono ?_; rintro e w1 ⟨rfl, rfl⟩))
  all_goals
    go_wp2_with fail
    refine (C3.out _ (HS.out _ (by first | exact ((Below.refl _ w).alloc (Nat.le_refl _) _) | exact ((Below.refl _ w).alloc (Nat.le_refl _) _).trans ⟨rfl, rfl, rfl, Nat.le_refl _, fun _ _ => rfl⟩)).kw).mono ?_
    rintro e w1 ⟨rfl, rfl⟩
    go_wp2_with fail
    refine (C4.out _).mono ?_
    rintro e w1 ⟨rfl, rfl⟩
    go_wp2_with fail
    refine (C5.out _ (HS.out _ (by first | exact ((Below.refl _ w).alloc (Nat.le_refl _) _) | exact ((Below.refl _ w).alloc (Nat.le_refl _) _).trans ⟨rfl, rfl, rfl, Nat.le_refl _, fun _ _ => rfl⟩))).mono ?_
    rintro e w5 ⟨rfl, hb5⟩
    have HB5 := Lib.hid (Below.trans (by first | exact ((Below.refl _ w).alloc (Nat.le_refl _) _) | exact ((Below.refl _ w).alloc (Nat.le_refl _) _).trans ⟨rfl, rfl, rfl, Nat.le_refl _, fun _ _ => rfl⟩) (hb5.mono (by simp)))
    have hT := TokAt.below (TokAt.new w (.int .i64 0) (.string ⟨#[]⟩) (.int .i64 0)) ⟨hb5.os, hb5.tape, hb5.output, hb5.size, hb5.block⟩
    obtain ⟨y0, y1, y2⟩ := hT.at_
    have yf := hT.free
    have hy := hT
    unfold TokAt at hy
    have hT := Lib.hid hT
    clear hb5 hy
    go_wp2_with fail
    exact bodyPost_ret (v := .tuple #[.agg #[.int .i64 4, .string (B (g0 :: gt)), .int .i64 a], .bool true]) (by simp [results, Tryz.results89, go_sem, y0, y1, y2]) rfl ⟨rfl, ((HB5.out.setCell (p := ⟨w.heap.size, 0, none⟩) (Nat.le_refl _) _).setCell (p := ⟨w.heap.size, 1, none⟩) (Nat.le_refl _) _).setCell (p := ⟨w.heap.size, 2, none⟩) (Nat.le_refl _) _⟩
set_option maxHeartbeats 1000000 in
theorem token_no (s : Bytes) (a : Nat) (ha : a ≤ s.length) (_hs : s.length ≤ 281474976710656) (w : World) (hG : Glob w) (r g : Bytes) (_hrl : r.length ≤ 281474976710656)
    (hC1 : ∀ W, Calls Tryz.prog 134 #[.string ((B s).extract a (B s).size)] W fun e w' => e = .returned (.string (B r)) ∧ W = w')
    (hC2 : ∀ W, GlobSG W → Calls Tryz.prog 135 #[.string ((B s).extract a (B s).size)] W fun e w' => e = .returned (.string (B g)) ∧ W = w')
    (hk : kwB r = false) (hn : nameB r = false) (hu : numB r = false) (hg : g = []) :
    Calls Tryz.prog 89 #[.string (B s), .int .i64 a] w fun e w' => e = .returned (.tuple #[.agg #[.int .i64 0, .string ⟨#[]⟩, .int .i64 0], .bool false]) ∧ Below w.heap.size w w' := by
  subst hg
  have C3 := fun W h => reserved_calls r W h
  rw [hk] at C3
  have C3 := Lib.hid C3
  have C4 := fun W => nameOf_calls r (by omega) W
  rw [hn] at C4
  have C4 := Lib.hid C4
  have C5 := fun W h => number_calls r _hrl W h
  rw [hu] at C5
  have C5 := Lib.hid C5
  have hsz : (B s).size = s.length := B_size s
  have C1 := Lib.hid (fun W => hC1 W)
  have C2 := Lib.hid (fun W h => hC2 W h)
  have HS := Lib.hid (fun (W : World) (h : Below w.heap.size w W) => hG.below h)
  have c1 : (0 : Int) ≤ (a : Int) := by omega
  have c2 : (a : Int) ≤ ((B s).size : Int) := by rw [hsz]; omega
  clear hG hC1 hC2
  go_enter Tryz.func89, Tryz.ntmps89
  go_wp2_with fail
  go_region_with (first | (go_at_call 134; refine (C1.out _).mono ?_; rintro e w1 ⟨rfl, rfl⟩) | (go_at_call 135; refine (C2.out _ (HS.out _ (by first | exact ((Below.refl _ w).alloc (Nat.le_refl _) _) | exact ((Below.refl _ w).alloc (Nat.le_refl _) _).trans ⟨rfl, rfl, rfl, Nat.le_refl _, fun _ _ => rfl⟩)).sg).mono ?_; rintro e w1 ⟨rfl, rfl⟩))
  all_goals
    go_wp2_with fail
    refine (C3.out _ (HS.out _ (by first | exact ((Below.refl _ w).alloc (Nat.le_refl _) _) | exact ((Below.refl _ w).alloc (Nat.le_refl _) _).trans ⟨rfl, rfl, rfl, Nat.le_refl _, fun _ _ => rfl⟩)).kw).mono ?_
    rintro e w1 ⟨rfl, rfl⟩
    go_wp2_with fail
    refine (C4.out _).mono ?_
    rintro e w1 ⟨rfl, rfl⟩
    go_wp2_with fail
    refine (C5.out _ (HS.out _ (by first | exact ((Below.refl _ w).alloc (Nat.le_refl _) _) | exact ((Below.refl _ w).alloc (Nat.le_refl _) _).trans ⟨rfl, rfl, rfl, Nat.le_refl _, fun _ _ => rfl⟩))).mono ?_
    rintro e w5 ⟨rfl, hb5⟩
    have HB5 := Lib.hid (Below.trans (by first | exact ((Below.refl _ w).alloc (Nat.le_refl _) _) | exact ((Below.refl _ w).alloc (Nat.le_refl _) _).trans ⟨rfl, rfl, rfl, Nat.le_refl _, fun _ _ => rfl⟩) (hb5.mono (by simp)))
    have hT := TokAt.below (TokAt.new w (.int .i64 0) (.string ⟨#[]⟩) (.int .i64 0)) ⟨hb5.os, hb5.tape, hb5.output, hb5.size, hb5.block⟩
    obtain ⟨y0, y1, y2⟩ := hT.at_
    have yf := hT.free
    have hy := hT
    unfold TokAt at hy
    have hT := Lib.hid hT
    clear hb5 hy
    go_wp2_with fail
    exact bodyPost_ret (v := .tuple #[.agg #[.int .i64 0, .string ⟨#[]⟩, .int .i64 0], .bool false]) (by simp [results, Tryz.results89, go_sem, y0, y1, y2]) rfl ⟨rfl, ((HB5.out.setCell (p := ⟨w.heap.size, 0, none⟩) (Nat.le_refl _) _).setCell (p := ⟨w.heap.size, 1, none⟩) (Nat.le_refl _) _).setCell (p := ⟨w.heap.size, 2, none⟩) (Nat.le_refl _) _⟩
theorem token_calls (s : Bytes) (a : Nat) (ha : a ≤ s.length) (hs : s.length ≤ 281474976710656) (w : World) (hG : Glob w) :
    Calls Tryz.prog 89 #[.string (B s), .int .i64 a] w fun e w' => e = .returned (.tuple #[tkV (tok (s.drop a)) a, .bool (decide ((tok (s.drop a)).1 ≠ 0))]) ∧ Below w.heap.size w w' := by
  have hl : (s.drop a).length ≤ 281474976710656 := by rw [List.length_drop]; omega
  have hrl : (row (s.drop a)).length ≤ 281474976710656 := Nat.le_trans (row_len _) hl
  have C1 := fun W => firstRow_calls (s.drop a) (by omega) W
  have C2 := fun W h => firstSign_calls (s.drop a) W h
  rw [← ext_drop] at C1 C2
  unfold tok
  cases hk : kwB (row (s.drop a)) with
  | true => exact token_kw s a ha hs w hG _ _ hrl C1 C2 hk
  | false =>
    cases hn : nameB (row (s.drop a)) with
    | true => exact token_nm s a ha hs w hG _ _ hrl C1 C2 hk hn
    | false =>
      cases hu : numB (row (s.drop a)) with
      | true => exact token_nu s a ha hs w hG _ _ hrl C1 C2 hk hn hu
      | false =>
        by_cases hg : sign (s.drop a) = []
        · simp only [hg, ne_eq, not_true_eq_false, if_false, Bool.false_eq_true]
          exact token_no s a ha hs w hG _ _ hrl C1 C2 hk hn hu hg
        · simp only [ne_eq, hg, not_false_eq_true, if_true, Bool.false_eq_true, if_false]
          exact token_sg s a ha hs w hG _ _ hrl C1 C2 hk hn hu hg
end Go.Proofs.YtoldhocdfkndbaaGreatDoor.L4
