/-
  stmt.Type and stmt.Word: contracts. Written by gen6_word.py.
-/
import Derived.Test.YtipepljmfgjbpaaGreatDoorTBase
namespace Go.Proofs.YtipepljmfgjbpaaGreatDoor.E6
open Go Go.RowKit Go.Proofs.YtipepljmfgjbpaaGreatDoor Go.Proofs.YtipepljmfgjbpaaGreatDoor.E5

def arr4 (p0 p1 p2 p3 : Bytes) : List Value := [.string (B p0), .string (B p1), .string (B p2), .string (B p3)]
theorem idx_0 (p0 p1 p2 p3 : Bytes) (w : World) : (Instr.index 71 (.agg #[.string (B p0), .string (B p1), .string (B p2), .string (B p3)]) (.int .i64 0)).run Tryz.prog w = .ok (.string (B p0)) w := by kernel_rfl
theorem idx_1 (p0 p1 p2 p3 : Bytes) (w : World) : (Instr.index 71 (.agg #[.string (B p0), .string (B p1), .string (B p2), .string (B p3)]) (.int .i64 1)).run Tryz.prog w = .ok (.string (B p1)) w := by kernel_rfl
theorem idx_2 (p0 p1 p2 p3 : Bytes) (w : World) : (Instr.index 71 (.agg #[.string (B p0), .string (B p1), .string (B p2), .string (B p3)]) (.int .i64 2)).run Tryz.prog w = .ok (.string (B p2)) w := by kernel_rfl
theorem idx_3 (p0 p1 p2 p3 : Bytes) (w : World) : (Instr.index 71 (.agg #[.string (B p0), .string (B p1), .string (B p2), .string (B p3)]) (.int .i64 3)).run Tryz.prog w = .ok (.string (B p3)) w := by kernel_rfl
set_option maxRecDepth 100000 in
set_option maxHeartbeats 2000000 in
theorem type_0 (p0 p1 p2 p3 s : Bytes) (q0 : (p0 == s) = true) (w : World) (hrow : w.rangeAt 0 0 (arr4 p0 p1 p2 p3)) :
    Calls Tryz.prog 15 #[.string (B s)] w fun e w' => e = .returned (.int .i64 0) ∧ Below w.heap.size w w' := by
  have hi' : (Tryz.prog.info? 71).map (·.size) = some (arr4 p0 p1 p2 p3).length := by kernel_rfl
  have HR := Lib.hid hrow
  have i0 := idx_0 p0 p1 p2 p3 w
  have i1 := idx_1 p0 p1 p2 p3 w
  have i2 := idx_2 p0 p1 p2 p3 w
  have i3 := idx_3 p0 p1 p2 p3 w
  clear hrow
  go_enter Tryz.func15, Tryz.ntmps15
  go_wp2_with (refine wpList_load_mid rfl 71 _ rfl 0 0 rfl (arr4 p0 p1 p2 p3) _ HR.out Tryz.underlying71 rfl hi' ?_; rw [show Value.agg (arr4 p0 p1 p2 p3).toArray = .agg #[.string (B p0), .string (B p1), .string (B p2), .string (B p3)] from rfl])
  clear hi' HR
  refine wp_loop_rounds 1 ?_
  rw [rounds_succ]
  go_wp2
  go_ret
  exact ⟨rfl, Below.refl _ _⟩
set_option maxRecDepth 100000 in
set_option maxHeartbeats 2000000 in
theorem type_1 (p0 p1 p2 p3 s : Bytes) (q0 : (p0 == s) = false) (q1 : (p1 == s) = true) (w : World) (hrow : w.rangeAt 0 0 (arr4 p0 p1 p2 p3)) :
    Calls Tryz.prog 15 #[.string (B s)] w fun e w' => e = .returned (.int .i64 1) ∧ Below w.heap.size w w' := by
  have hi' : (Tryz.prog.info? 71).map (·.size) = some (arr4 p0 p1 p2 p3).length := by kernel_rfl
  have HR := Lib.hid hrow
  have i0 := idx_0 p0 p1 p2 p3 w
  have i1 := idx_1 p0 p1 p2 p3 w
  have i2 := idx_2 p0 p1 p2 p3 w
  have i3 := idx_3 p0 p1 p2 p3 w
  clear hrow
  go_enter Tryz.func15, Tryz.ntmps15
  go_wp2_with (refine wpList_load_mid rfl 71 _ rfl 0 0 rfl (arr4 p0 p1 p2 p3) _ HR.out Tryz.underlying71 rfl hi' ?_; rw [show Value.agg (arr4 p0 p1 p2 p3).toArray = .agg #[.string (B p0), .string (B p1), .string (B p2), .string (B p3)] from rfl])
  clear hi' HR
  refine wp_loop_rounds 2 ?_
  rw [rounds_succ]
  go_wp2
  rw [rounds_succ]
  go_wp2
  go_ret
  exact ⟨rfl, Below.refl _ _⟩
set_option maxRecDepth 100000 in
set_option maxHeartbeats 2000000 in
theorem type_2 (p0 p1 p2 p3 s : Bytes) (q0 : (p0 == s) = false) (q1 : (p1 == s) = false) (q2 : (p2 == s) = true) (w : World) (hrow : w.rangeAt 0 0 (arr4 p0 p1 p2 p3)) :
    Calls Tryz.prog 15 #[.string (B s)] w fun e w' => e = .returned (.int .i64 2) ∧ Below w.heap.size w w' := by
  have hi' : (Tryz.prog.info? 71).map (·.size) = some (arr4 p0 p1 p2 p3).length := by kernel_rfl
  have HR := Lib.hid hrow
  have i0 := idx_0 p0 p1 p2 p3 w
  have i1 := idx_1 p0 p1 p2 p3 w
  have i2 := idx_2 p0 p1 p2 p3 w
  have i3 := idx_3 p0 p1 p2 p3 w
  clear hrow
  go_enter Tryz.func15, Tryz.ntmps15
  go_wp2_with (refine wpList_load_mid rfl 71 _ rfl 0 0 rfl (arr4 p0 p1 p2 p3) _ HR.out Tryz.underlying71 rfl hi' ?_; rw [show Value.agg (arr4 p0 p1 p2 p3).toArray = .agg #[.string (B p0), .string (B p1), .string (B p2), .string (B p3)] from rfl])
  clear hi' HR
  refine wp_loop_rounds 3 ?_
  rw [rounds_succ]
  go_wp2
  rw [rounds_succ]
  go_wp2
  rw [rounds_succ]
  go_wp2
  go_ret
  exact ⟨rfl, Below.refl _ _⟩
set_option maxRecDepth 100000 in
set_option maxHeartbeats 2000000 in
theorem type_3 (p0 p1 p2 p3 s : Bytes) (q0 : (p0 == s) = false) (q1 : (p1 == s) = false) (q2 : (p2 == s) = false) (q3 : (p3 == s) = true) (w : World) (hrow : w.rangeAt 0 0 (arr4 p0 p1 p2 p3)) :
    Calls Tryz.prog 15 #[.string (B s)] w fun e w' => e = .returned (.int .i64 3) ∧ Below w.heap.size w w' := by
  have hi' : (Tryz.prog.info? 71).map (·.size) = some (arr4 p0 p1 p2 p3).length := by kernel_rfl
  have HR := Lib.hid hrow
  have i0 := idx_0 p0 p1 p2 p3 w
  have i1 := idx_1 p0 p1 p2 p3 w
  have i2 := idx_2 p0 p1 p2 p3 w
  have i3 := idx_3 p0 p1 p2 p3 w
  clear hrow
  go_enter Tryz.func15, Tryz.ntmps15
  go_wp2_with (refine wpList_load_mid rfl 71 _ rfl 0 0 rfl (arr4 p0 p1 p2 p3) _ HR.out Tryz.underlying71 rfl hi' ?_; rw [show Value.agg (arr4 p0 p1 p2 p3).toArray = .agg #[.string (B p0), .string (B p1), .string (B p2), .string (B p3)] from rfl])
  clear hi' HR
  refine wp_loop_rounds 4 ?_
  rw [rounds_succ]
  go_wp2
  rw [rounds_succ]
  go_wp2
  rw [rounds_succ]
  go_wp2
  rw [rounds_succ]
  go_wp2
  go_ret
  exact ⟨rfl, Below.refl _ _⟩
set_option maxRecDepth 100000 in
set_option maxHeartbeats 2000000 in
theorem type_4 (p0 p1 p2 p3 s : Bytes) (q0 : (p0 == s) = false) (q1 : (p1 == s) = false) (q2 : (p2 == s) = false) (q3 : (p3 == s) = false) (w : World) (hrow : w.rangeAt 0 0 (arr4 p0 p1 p2 p3)) :
    Calls Tryz.prog 15 #[.string (B s)] w fun e w' => e = .returned (.int .i64 0) ∧ Below w.heap.size w w' := by
  have hi' : (Tryz.prog.info? 71).map (·.size) = some (arr4 p0 p1 p2 p3).length := by kernel_rfl
  have HR := Lib.hid hrow
  have i0 := idx_0 p0 p1 p2 p3 w
  have i1 := idx_1 p0 p1 p2 p3 w
  have i2 := idx_2 p0 p1 p2 p3 w
  have i3 := idx_3 p0 p1 p2 p3 w
  clear hrow
  go_enter Tryz.func15, Tryz.ntmps15
  go_wp2_with (refine wpList_load_mid rfl 71 _ rfl 0 0 rfl (arr4 p0 p1 p2 p3) _ HR.out Tryz.underlying71 rfl hi' ?_; rw [show Value.agg (arr4 p0 p1 p2 p3).toArray = .agg #[.string (B p0), .string (B p1), .string (B p2), .string (B p3)] from rfl])
  clear hi' HR
  refine wp_loop_rounds 5 ?_
  rw [rounds_succ]
  go_wp2
  rw [rounds_succ]
  go_wp2
  rw [rounds_succ]
  go_wp2
  rw [rounds_succ]
  go_wp2
  rw [rounds_succ]
  go_wp2
  go_ret
  exact ⟨rfl, Below.refl _ _⟩
theorem type_calls (s : Bytes) (w : World) (hG : GlobW w) :
    Calls Tryz.prog 15 #[.string (B s)] w fun e w' => e = .returned (.int .i64 (typW s)) ∧ Below w.heap.size w w' := by
  have hrow : w.rangeAt 0 0 (arr4 [] wInt wBool wArray) := hG.row
  have ne : ∀ {p q : Bytes}, p ≠ q → (p == q) = false := fun h => beq_eq_false_iff_ne.2 h
  by_cases h0 : ([] : Bytes) = s
  · subst h0; exact type_0 [] wInt wBool wArray [] (by decide) w hrow
  by_cases h1 : wInt = s
  · subst h1; exact type_1 [] wInt wBool wArray wInt (by decide) (by decide) w hrow
  by_cases h2 : wBool = s
  · subst h2; exact type_2 [] wInt wBool wArray wBool (by decide) (by decide) (by decide) w hrow
  by_cases h3 : wArray = s
  · subst h3; exact type_3 [] wInt wBool wArray wArray (by decide) (by decide) (by decide) (by decide) w hrow
  · have e : typW s = 0 := by unfold typW; rw [if_neg (Ne.symm h1), if_neg (Ne.symm h2), if_neg (Ne.symm h3)]
    rw [e]
    exact type_4 [] wInt wBool wArray s (ne h0) (ne h1) (ne h2) (ne h3) w hrow
set_option maxRecDepth 100000 in
theorem word_0 (w : World) (hc : w.cell? ⟨0, 0, none⟩ = some (.string (B []))) :
    Calls Tryz.prog 16 #[.int .i64 0] w fun e w' => e = .returned (.string (B [])) ∧ Below w.heap.size w w' := by
  go_enter Tryz.func16, Tryz.ntmps16
  go_wp2_with fail
  go_ret
  exact ⟨rfl, Below.refl _ _⟩
set_option maxRecDepth 100000 in
theorem word_1 (w : World) (hc : w.cell? ⟨0, 1, none⟩ = some (.string (B wInt))) :
    Calls Tryz.prog 16 #[.int .i64 1] w fun e w' => e = .returned (.string (B wInt)) ∧ Below w.heap.size w w' := by
  go_enter Tryz.func16, Tryz.ntmps16
  go_wp2_with fail
  go_ret
  exact ⟨rfl, Below.refl _ _⟩
set_option maxRecDepth 100000 in
theorem word_2 (w : World) (hc : w.cell? ⟨0, 2, none⟩ = some (.string (B wBool))) :
    Calls Tryz.prog 16 #[.int .i64 2] w fun e w' => e = .returned (.string (B wBool)) ∧ Below w.heap.size w w' := by
  go_enter Tryz.func16, Tryz.ntmps16
  go_wp2_with fail
  go_ret
  exact ⟨rfl, Below.refl _ _⟩
set_option maxRecDepth 100000 in
theorem word_3 (w : World) (hc : w.cell? ⟨0, 3, none⟩ = some (.string (B wArray))) :
    Calls Tryz.prog 16 #[.int .i64 3] w fun e w' => e = .returned (.string (B wArray)) ∧ Below w.heap.size w w' := by
  go_enter Tryz.func16, Tryz.ntmps16
  go_wp2_with fail
  go_ret
  exact ⟨rfl, Below.refl _ _⟩
set_option maxRecDepth 100000 in
theorem word_lo (t : Int) (h : t < 0) (w : World) :
    Calls Tryz.prog 16 #[.int .i64 t] w fun e w' => e = .returned (.string (B [])) ∧ Below w.heap.size w w' := by
  go_enter Tryz.func16, Tryz.ntmps16
  go_wp2_with fail
  go_ret
  exact ⟨rfl, Below.refl _ _⟩
set_option maxRecDepth 100000 in
theorem word_hi (t : Int) (h0 : ¬ t < 0) (h : 4 ≤ t) (w : World) :
    Calls Tryz.prog 16 #[.int .i64 t] w fun e w' => e = .returned (.string (B [])) ∧ Below w.heap.size w w' := by
  go_enter Tryz.func16, Tryz.ntmps16
  go_wp2_with fail
  go_ret
  exact ⟨rfl, Below.refl _ _⟩
theorem word_calls (t : Int) (w : World) (hG : GlobW w) :
    Calls Tryz.prog 16 #[.int .i64 t] w fun e w' => e = .returned (.string (B (wordT t))) ∧ Below w.heap.size w w' := by
  by_cases hl : t < 0
  · rw [show wordT t = [] from by unfold wordT; rw [if_neg (by omega), if_neg (by omega), if_neg (by omega)]]; exact word_lo t hl w
  by_cases hh : 4 ≤ t
  · rw [show wordT t = [] from by unfold wordT; rw [if_neg (by omega), if_neg (by omega), if_neg (by omega)]]; exact word_hi t hl hh w
  have : t = 0 ∨ t = 1 ∨ t = 2 ∨ t = 3 := by omega
  rcases this with rfl | rfl | rfl | rfl
  · exact word_0 w (hG.row 0 _ rfl)
  · exact word_1 w (hG.row 1 _ rfl)
  · exact word_2 w (hG.row 2 _ rfl)
  · exact word_3 w (hG.row 3 _ rfl)
end Go.Proofs.YtipepljmfgjbpaaGreatDoor.E6
