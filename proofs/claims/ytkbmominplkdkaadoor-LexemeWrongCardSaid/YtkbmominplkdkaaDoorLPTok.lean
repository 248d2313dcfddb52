/-
  Piece.token: contracts by its kinds.
-/
import Derived.Test.YtkbmominplkdkaaDoorLGap
import Derived.Test.YtkbmominplkdkaaDoorLSg
import Derived.BigRegion
import Derived.Deep.RegionWith
namespace Go.Proofs.YtkbmominplkdkaaDoor
open Go Go.RowKit Go.Sort

/-- The piece's box. -/
structure BoxAt (w : World) (N : Nat) (p : Pc) : Prop where
  lt : N < w.heap.size
  c0 : w.cell? ⟨N, 0, none⟩ = some (.int .u8 (p.k : Int))
  c1 : w.cell? ⟨N, 1, none⟩ = some (.int .u8 (p.n : Int))
  c2 : w.cell? ⟨N, 2, none⟩ = some (.int .u8 (p.g : Int))
  c3 : w.cell? ⟨N, 3, none⟩ = some (.int .u64 (p.b : Int))
theorem BoxAt.below {w w' : World} {N : Nat} {p : Pc} (h : BoxAt w N p) (hb : Below w.heap.size w w') : BoxAt w' N p :=
  ⟨Nat.lt_of_lt_of_le h.lt hb.size, (hb.cell (p := ⟨N, 0, none⟩) h.lt).trans h.c0, (hb.cell (p := ⟨N, 1, none⟩) h.lt).trans h.c1, (hb.cell (p := ⟨N, 2, none⟩) h.lt).trans h.c2, (hb.cell (p := ⟨N, 3, none⟩) h.lt).trans h.c3⟩
abbrev pw0 (w : World) (p : Pc) : World := w.alloc (.cells #[.int .u8 (p.k : Int), .int .u8 (p.n : Int), .int .u8 (p.g : Int), .int .u64 (p.b : Int)] 39)
abbrev pw1 (w : World) (p : Pc) : World := (pw0 w p).alloc (.cells #[.int .i64 0, .string ⟨#[]⟩, .int .i64 0] 32)
theorem pw1_below (w : World) (p : Pc) : Below w.heap.size w (pw1 w p) := ((Below.refl _ w).alloc (Nat.le_refl _) _).alloc (by simp) _
theorem pw1_box (w : World) (p : Pc) : BoxAt (pw1 w p) w.heap.size p := by
  have h : BoxAt (pw0 w p) w.heap.size p := by
    refine ⟨by simp, ?_, ?_, ?_, ?_⟩ <;> rw [cell_of_row _ _ _ _ _ _ (heap_alloc_new w _)] <;> rfl
  exact h.below ((Below.refl _ _).alloc (Nat.le_refl _) _)
theorem pw1_tok (w : World) (p : Pc) : TokAt (pw1 w p) (w.heap.size + 1) (.int .i64 0) (.string ⟨#[]⟩) (.int .i64 0) := by
  have := TokAt.new (pw0 w p) (.int .i64 0) (.string ⟨#[]⟩) (.int .i64 0)
  simpa using this
theorem tok_set {w w' : World} (h : Below w.heap.size w w') (v0 v1 v2 : Value) : Below w.heap.size w (((w'.setCell ⟨w.heap.size + 1, 0, none⟩ v0).setCell ⟨w.heap.size + 1, 1, none⟩ v1).setCell ⟨w.heap.size + 1, 2, none⟩ v2) :=
  ((h.setCell (p := ⟨w.heap.size + 1, 0, none⟩) (Nat.le_succ _) _).setCell (p := ⟨w.heap.size + 1, 1, none⟩) (Nat.le_succ _) _).setCell (p := ⟨w.heap.size + 1, 2, none⟩) (Nat.le_succ _) _

set_option maxRecDepth 100000 in
set_option maxHeartbeats 2000000 in
theorem ptok_num (p : Pc) (hp : OkPc p) (hk : p.k % 4 = 1) (w : World) :
    Calls Tryd.prog 17 #[pcV p] w fun e w' => e = .returned (.agg #[.int .i64 2, .string (B (Lib.decDigits (p.b / 2))), .int .i64 0]) ∧ Below w.heap.size w w' := by
  obtain ⟨_, _, _, hb⟩ := hp
  have e0 : (p.k : Int) % 4 = 1 := by omega
  have C := fun W => decimal_calls (p.b / 2) (by omega) W
  rw [show ((p.b / 2 : Nat) : Int) = (p.b : Int) / 2 from by push_cast; rfl] at C
  generalize Lib.decDigits (p.b / 2) = t at *
  have C := Lib.hid C
  have HB := Lib.hid (pw1_below w p)
  have HT := Lib.hid (pw1_tok w p)
  unfold pcV
  go_enter Tryd.func17, Tryd.ntmps17
  go_wp2_with fail
  refine (C.out _).mono ?_
  rintro e w3 ⟨rfl, hb3⟩
  have T3 := HT.out.below hb3
  obtain ⟨y0, y1, y2⟩ := T3.at_
  have yf := T3.free
  have B3 := Lib.hid (HB.out.trans (hb3.mono HB.out.size))
  clear hb3 T3 C HT HB
  go_wp2_with fail
  exact bodyPost_ret (v := .agg #[.int .i64 2, .string (B t), .int .i64 0]) (by simp [results, Tryd.results17, go_sem, y0, y1, y2]) rfl ⟨rfl, tok_set B3.out _ _ _⟩
set_option maxRecDepth 100000 in
set_option maxHeartbeats 2000000 in
theorem ptok_sig (p : Pc) (hp : OkPc p) (hk : p.k % 4 = 3) (w : World) (hG : Glob w) :
    Calls Tryd.prog 17 #[pcV p] w fun e w' => e = .returned (.agg #[.int .i64 4, .string (B (sgL.getD (p.n % 23) [])), .int .i64 0]) ∧ Below w.heap.size w w' := by
  obtain ⟨_, hn, _, _⟩ := hp
  have e0 : (p.k : Int) % 4 = 3 := by omega
  obtain ⟨d, hd⟩ : ∃ d, d = p.n % 23 := ⟨_, rfl⟩
  have e1 : (p.n : Int) % 23 = (d : Int) := by omega
  have hd23 : d < 23 := by omega
  rw [← hd]
  generalize hgt : sgL.getD d [] = t
  have HGT := Lib.hid hgt
  clear hd hgt
  have HB := Lib.hid (pw1_below w p)
  have HT := Lib.hid (pw1_tok w p)
  have HX := Lib.hid (pw1_box w p)
  have C := Lib.hid (signs_calls (pw1 w p) (hG.below (pw1_below w p)).sg)
  unfold pcV
  clear hG
  go_enter Tryd.func17, Tryd.ntmps17
  go_wp2_with fail
  refine C.out.mono ?_
  rintro e w3 ⟨rfl, hb3, hc3⟩
  have T3 := HT.out.below hb3
  obtain ⟨y0, y1, y2⟩ := T3.at_
  have yf := T3.free
  have B3 := Lib.hid (HB.out.trans (hb3.mono HB.out.size))
  have X3 := HX.out.below hb3
  have x1 := X3.c1
  have z := hc3 d hd23
  rw [HGT.out] at z
  clear hb3 hc3 T3 X3 HT HX HB C
  generalize (pw1 w p).heap.size = M at *
  go_wp2_with fail
  exact bodyPost_ret (v := .agg #[.int .i64 4, .string (B t), .int .i64 0]) (by simp [results, Tryd.results17, go_sem, y0, y1, y2]) rfl ⟨rfl, tok_set B3.out _ _ _⟩
set_option maxRecDepth 100000 in
set_option maxHeartbeats 2000000 in
theorem ptok_kw (p : Pc) (hp : OkPc p) (hk : p.k % 4 = 2) (w : World) :
    Calls Tryd.prog 17 #[pcV p] w fun e w' => e = .returned (.agg #[.int .i64 3, .string (B (kwsL.getD (p.n % 15) [])), .int .i64 0]) ∧ Below w.heap.size w w' := by
  obtain ⟨_, hn, _, _⟩ := hp
  have e0 : (p.k : Int) % 4 = 2 := by omega
  have HB := Lib.hid (pw1_below w p)
  have HT := Lib.hid (pw1_tok w p)
  have HX := Lib.hid (pw1_box w p)
  obtain ⟨d, hd⟩ : ∃ d, d = p.n % 15 := ⟨_, rfl⟩
  have hd15 : d < 15 := by omega
  have e1 : (p.n : Int) % 15 = (d : Int) := by omega
  have e2 : (p.n : Int).tmod 15 = (d : Int) := by rw [Int.tmod_eq_emod_of_nonneg (by omega)]; exact e1
  have e3 : IntKind.i64.wrap (p.n : Int) = (p.n : Int) := IntWalk.i64_in _ (by omega)
  have e4 : wrap64 (p.n : Int) = (p.n : Int) := IntWalk.wrap64_in _ (by omega)
  have e5 : (0 : Int) ≤ (d : Int) := by omega
  have e6 : (d : Int) < 15 := by omega
  rw [← hd]
  generalize hgt : kwsL.getD d [] = t
  have HGT := Lib.hid hgt
  clear hd hgt
  have x1 := (pw1_box w p).c1
  unfold pcV
  go_enter Tryd.func17, Tryd.ntmps17
  go_wp2_with fail
  go_region_with (go_at_call 21; refine (lawKeywords_calls _).mono ?_; rintro e w3 ⟨rfl, hb3, hc3⟩; have hb4 : Below (pw1 w p).heap.size (pw1 w p) w3 := ⟨hb3.os, hb3.tape, hb3.output, hb3.size, hb3.block⟩; have T3 := HT.out.below hb4; obtain ⟨y0, y1, y2⟩ := T3.at_; have yf := T3.free; have B3 := Lib.hid (HB.out.trans (hb4.mono HB.out.size)); have x3 := (HX.out.below hb4).c1; have z : w3.cell? ⟨w.heap.size + 1 + 1, d, none⟩ = some (.string (B t)) := (by have h := hc3 d hd15; rw [HGT.out] at h; simpa using h); clear hb3 hb4 hc3 T3)
  all_goals
    go_wp2_with fail
    exact bodyPost_ret (v := .agg #[.int .i64 3, .string (B t), .int .i64 0]) (by simp [results, Tryd.results17, go_sem, y0, y1, y2]) rfl ⟨rfl, tok_set B3.out _ _ _⟩
end Go.Proofs.YtkbmominplkdkaaDoor
