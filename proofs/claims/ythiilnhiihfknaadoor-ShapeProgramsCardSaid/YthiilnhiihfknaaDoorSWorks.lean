/-
  The chapter's examples: works returns true. Written by gen3_works.py.
-/
import Derived.Test.YthiilnhiihfknaaDoorSSame
namespace Go.Proofs.YthiilnhiihfknaaDoor
open Go Go.RowKit

theorem nmY0 (w : World) (hG : GlobK w) : Calls Tryd.prog 13 #[.string ⟨#[120]⟩] w fun e w' => e = .returned (.bool true) ∧ w = w' := by
  have h := name_calls [120] (by decide) w hG
  rw [show nameB [120] = true by decide +kernel] at h
  exact h
theorem nmY1 (w : World) (hG : GlobK w) : Calls Tryd.prog 13 #[.string ⟨#[97, 95, 49]⟩] w fun e w' => e = .returned (.bool true) ∧ w = w' := by
  have h := name_calls [97, 95, 49] (by decide) w hG
  rw [show nameB [97, 95, 49] = true by decide +kernel] at h
  exact h
theorem nmY2 (w : World) (hG : GlobK w) : Calls Tryd.prog 13 #[.string ⟨#[76, 101, 110]⟩] w fun e w' => e = .returned (.bool true) ∧ w = w' := by
  have h := name_calls [76, 101, 110] (by decide) w hG
  rw [show nameB [76, 101, 110] = true by decide +kernel] at h
  exact h
theorem nmN0 (w : World) (hG : GlobK w) : Calls Tryd.prog 13 #[.string ⟨#[]⟩] w fun e w' => e = .returned (.bool false) ∧ w = w' := by
  have h := name_calls [] (by decide) w hG
  rw [show nameB [] = false by decide +kernel] at h
  exact h
theorem nmN1 (w : World) (hG : GlobK w) : Calls Tryd.prog 13 #[.string ⟨#[49, 97]⟩] w fun e w' => e = .returned (.bool false) ∧ w = w' := by
  have h := name_calls [49, 97] (by decide) w hG
  rw [show nameB [49, 97] = false by decide +kernel] at h
  exact h
theorem nmN2 (w : World) (hG : GlobK w) : Calls Tryd.prog 13 #[.string ⟨#[95, 97]⟩] w fun e w' => e = .returned (.bool false) ∧ w = w' := by
  have h := name_calls [95, 97] (by decide) w hG
  rw [show nameB [95, 97] = false by decide +kernel] at h
  exact h
theorem nmN3 (w : World) (hG : GlobK w) : Calls Tryd.prog 13 #[.string ⟨#[108, 101, 110]⟩] w fun e w' => e = .returned (.bool false) ∧ w = w' := by
  have h := name_calls [108, 101, 110] (by decide) w hG
  rw [show nameB [108, 101, 110] = false by decide +kernel] at h
  exact h
theorem nmN4 (w : World) (hG : GlobK w) : Calls Tryd.prog 13 #[.string ⟨#[97, 45, 98]⟩] w fun e w' => e = .returned (.bool false) ∧ w = w' := by
  have h := name_calls [97, 45, 98] (by decide) w hG
  rw [show nameB [97, 45, 98] = false by decide +kernel] at h
  exact h
theorem nmN5 (w : World) (hG : GlobK w) : Calls Tryd.prog 13 #[.string ⟨#[97, 98, 99, 100, 101, 102, 103, 104, 105, 106, 107, 108, 109, 110, 111, 112, 113]⟩] w fun e w' => e = .returned (.bool false) ∧ w = w' := by
  have h := name_calls [97, 98, 99, 100, 101, 102, 103, 104, 105, 106, 107, 108, 109, 110, 111, 112, 113] (by decide) w hG
  rw [show nameB [97, 98, 99, 100, 101, 102, 103, 104, 105, 106, 107, 108, 109, 110, 111, 112, 113] = false by decide +kernel] at h
  exact h
theorem bad0 (v : Value) (w : World) (h : EIn w w.heap.size [] v) (hG : Glob w) : (Calls Tryd.prog 15 #[.agg #[.int .i64 1, .int .i64 0, .int .i64 (-5), .string ⟨#[]⟩, v]] w fun e w' => e = .returned (.int .i64 2) ∧ Below w.heap.size w w') ∧ (Calls Tryd.prog 17 #[.agg #[.int .i64 1, .int .i64 0, .int .i64 (-5), .string ⟨#[]⟩, v]] w fun e w' => e = .returned (.int .i64 0) ∧ Below w.heap.size w w') := by
  have ho : OkE ⟨1, 0, -5, [], []⟩ := ⟨by unfold okI; decide, by unfold okI; decide, by unfold okI; decide, by decide⟩
  have h1 := expr_calls ⟨1, 0, -5, [], []⟩ ho v w h hG
  have h2 := depth_calls ⟨1, 0, -5, [], []⟩ ho v w h hG
  rw [show exB ⟨1, 0, -5, [], []⟩ = false by decide +kernel] at h1
  rw [show dep 20 ⟨1, 0, -5, [], []⟩ = 0 by decide +kernel] at h2
  exact ⟨h1, h2⟩
theorem bad1 (v : Value) (w : World) (h : EIn w w.heap.size [] v) (hG : Glob w) : (Calls Tryd.prog 15 #[.agg #[.int .i64 2, .int .i64 0, .int .i64 2, .string ⟨#[]⟩, v]] w fun e w' => e = .returned (.int .i64 2) ∧ Below w.heap.size w w') ∧ (Calls Tryd.prog 17 #[.agg #[.int .i64 2, .int .i64 0, .int .i64 2, .string ⟨#[]⟩, v]] w fun e w' => e = .returned (.int .i64 0) ∧ Below w.heap.size w w') := by
  have ho : OkE ⟨2, 0, 2, [], []⟩ := ⟨by unfold okI; decide, by unfold okI; decide, by unfold okI; decide, by decide⟩
  have h1 := expr_calls ⟨2, 0, 2, [], []⟩ ho v w h hG
  have h2 := depth_calls ⟨2, 0, 2, [], []⟩ ho v w h hG
  rw [show exB ⟨2, 0, 2, [], []⟩ = false by decide +kernel] at h1
  rw [show dep 20 ⟨2, 0, 2, [], []⟩ = 0 by decide +kernel] at h2
  exact ⟨h1, h2⟩
theorem bad2 (v : Value) (w : World) (h : EIn w w.heap.size [] v) (hG : Glob w) : (Calls Tryd.prog 15 #[.agg #[.int .i64 3, .int .i64 0, .int .i64 1, .string ⟨#[120]⟩, v]] w fun e w' => e = .returned (.int .i64 2) ∧ Below w.heap.size w w') ∧ (Calls Tryd.prog 17 #[.agg #[.int .i64 3, .int .i64 0, .int .i64 1, .string ⟨#[120]⟩, v]] w fun e w' => e = .returned (.int .i64 0) ∧ Below w.heap.size w w') := by
  have ho : OkE ⟨3, 0, 1, [120], []⟩ := ⟨by unfold okI; decide, by unfold okI; decide, by unfold okI; decide, by decide⟩
  have h1 := expr_calls ⟨3, 0, 1, [120], []⟩ ho v w h hG
  have h2 := depth_calls ⟨3, 0, 1, [120], []⟩ ho v w h hG
  rw [show exB ⟨3, 0, 1, [120], []⟩ = false by decide +kernel] at h1
  rw [show dep 20 ⟨3, 0, 1, [120], []⟩ = 0 by decide +kernel] at h2
  exact ⟨h1, h2⟩
theorem bad3 (v : Value) (w : World) (h : EIn w w.heap.size [⟨1, 0, 1, [], []⟩] v) (hG : Glob w) : (Calls Tryd.prog 15 #[.agg #[.int .i64 4, .int .i64 1, .int .i64 0, .string ⟨#[]⟩, v]] w fun e w' => e = .returned (.int .i64 2) ∧ Below w.heap.size w w') ∧ (Calls Tryd.prog 17 #[.agg #[.int .i64 4, .int .i64 1, .int .i64 0, .string ⟨#[]⟩, v]] w fun e w' => e = .returned (.int .i64 0) ∧ Below w.heap.size w w') := by
  have ho : OkE ⟨4, 1, 0, [], [⟨1, 0, 1, [], []⟩]⟩ := ⟨by unfold okI; decide, by unfold okI; decide, by unfold okI; decide, by decide⟩
  have h1 := expr_calls ⟨4, 1, 0, [], [⟨1, 0, 1, [], []⟩]⟩ ho v w h hG
  have h2 := depth_calls ⟨4, 1, 0, [], [⟨1, 0, 1, [], []⟩]⟩ ho v w h hG
  rw [show exB ⟨4, 1, 0, [], [⟨1, 0, 1, [], []⟩]⟩ = false by decide +kernel] at h1
  rw [show dep 20 ⟨4, 1, 0, [], [⟨1, 0, 1, [], []⟩]⟩ = 0 by decide +kernel] at h2
  exact ⟨h1, h2⟩
theorem bad4 (v : Value) (w : World) (h : EIn w w.heap.size [] v) (hG : Glob w) : (Calls Tryd.prog 15 #[.agg #[.int .i64 0, .int .i64 0, .int .i64 0, .string ⟨#[]⟩, v]] w fun e w' => e = .returned (.int .i64 2) ∧ Below w.heap.size w w') ∧ (Calls Tryd.prog 17 #[.agg #[.int .i64 0, .int .i64 0, .int .i64 0, .string ⟨#[]⟩, v]] w fun e w' => e = .returned (.int .i64 0) ∧ Below w.heap.size w w') := by
  have ho : OkE ⟨0, 0, 0, [], []⟩ := ⟨by unfold okI; decide, by unfold okI; decide, by unfold okI; decide, by decide⟩
  have h1 := expr_calls ⟨0, 0, 0, [], []⟩ ho v w h hG
  have h2 := depth_calls ⟨0, 0, 0, [], []⟩ ho v w h hG
  rw [show exB ⟨0, 0, 0, [], []⟩ = false by decide +kernel] at h1
  rw [show dep 20 ⟨0, 0, 0, [], []⟩ = 0 by decide +kernel] at h2
  exact ⟨h1, h2⟩

abbrev sX : St := ⟨6, 0, [], 0, [], [⟨3, 0, 0, [120], []⟩], [], []⟩
abbrev fM : Fn := ⟨[109, 97, 105, 110], [], 0, [sX, sX], 2⟩
abbrev fQ : Fn := ⟨[109, 97, 105, 110], [], 0, [sX, { sX with no := 1 }], 2⟩
theorem fM_numb : numbP [fM] = [fQ] := by
  unfold numbP
  rw [if_pos (by decide +kernel)]
  rfl
theorem sXt : sameSt sX { sX with no := 5 } = true := by
  unfold sameSt
  rw [show rightL [sX] = true by decide +kernel, show rightL [{ sX with no := 5 }] = true by decide +kernel]
  have h : eqSt sX { sX with no := 5 } = true := by
    unfold eqSt
    simp [erS_eq]
  simp [h]
abbrev xS (w : World) : Value := .slice (some ⟨w.heap.size, 0, none⟩) 1 1
abbrev w1X (w : World) : World := w.alloc (eO ⟨3, 0, 0, [120], []⟩ (.slice none 0 0))
abbrev w2X (w : World) : World := (w1X w).alloc (sO sX (xS w) (.slice none 0 0) (.slice none 0 0))
abbrev w3X (w : World) : World := (w2X w).alloc (.cells #[.int .i64 6, .int .i64 0, .string ⟨#[]⟩, .int .i64 0, .string ⟨#[]⟩, xS w, .slice none 0 0, .slice none 0 0, .int .i64 6, .int .i64 0, .string ⟨#[]⟩, .int .i64 0, .string ⟨#[]⟩, xS w, .slice none 0 0, .slice none 0 0] 46)
abbrev w4X (w : World) : World := (w3X w).alloc (fO fM (.slice none 0 0) (.slice (some ⟨w.heap.size + 1 + 1, 0, none⟩) 2 2))
abbrev w5X (w : World) : World := (w4X w).alloc (.cells #[.slice (some ⟨w.heap.size + 1 + 1 + 1, 0, none⟩) 1 1] 35)
theorem okx : OkE ⟨3, 0, 0, [120], []⟩ := ⟨by unfold okI; decide, by unfold okI; decide, by unfold okI; decide, by decide⟩
theorem oks : OkS sX := ⟨by unfold okI; decide, by unfold okI; decide, by unfold okI; decide, by decide, by decide⟩
theorem okf : OkF fM := ⟨by decide, by unfold okI; decide, by unfold okI; decide⟩
theorem prog_in (w : World) : Below w.heap.size w (w5X w) ∧ (w5X w).heap.size = w.heap.size + 5 ∧ EIn (w5X w) (w5X w).heap.size sX.args (xS w) ∧ SBox (w5X w) (w.heap.size + 1) sX (xS w) (.slice none 0 0) (.slice none 0 0) ∧ FIn (w5X w) (w5X w).heap.size [fM] (.slice (some ⟨w.heap.size + 1 + 1 + 1, 0, none⟩) 1 1) ∧ (w5X w).cell? ⟨w.heap.size + 1 + 1 + 1 + 1, 0, none⟩ = some (.slice (some ⟨w.heap.size + 1 + 1 + 1, 0, none⟩) 1 1) := by
  have s1 : (w1X w).heap.size = w.heap.size + 1 := sz1 _ _
  have s2 : (w2X w).heap.size = w.heap.size + 1 + 1 := (sz1 _ _).trans (by rw [s1])
  have s3 : (w3X w).heap.size = w.heap.size + 1 + 1 + 1 := (sz1 _ _).trans (by rw [s2])
  have s4 : (w4X w).heap.size = w.heap.size + 1 + 1 + 1 + 1 := (sz1 _ _).trans (by rw [s3])
  have s5 : (w5X w).heap.size = w.heap.size + 1 + 1 + 1 + 1 + 1 := (sz1 _ _).trans (by rw [s4])
  have b2 : Below (w1X w).heap.size (w1X w) (w2X w) := bal _ _
  have b3 : Below (w2X w).heap.size (w2X w) (w3X w) := bal _ _
  have b4 : Below (w3X w).heap.size (w3X w) (w4X w) := bal _ _
  have b5 : Below (w4X w).heap.size (w4X w) (w5X w) := bal _ _
  have b45 : Below (w3X w).heap.size (w3X w) (w5X w) := after b4 b5
  have b345 : Below (w2X w).heap.size (w2X w) (w5X w) := after b3 b45
  have e1 : EIn (w1X w) (w1X w).heap.size sX.args (xS w) := EIn.one (v := .slice none 0 0) (by rw [s1]; omega) okx (EBox.new w ⟨3, 0, 0, [120], []⟩ (.slice none 0 0)) (ER.nil _ _)
  have e5 : EIn (w5X w) (w5X w).heap.size sX.args (xS w) := e1.up (after b2 b345)
  have x2 : SBox (w2X w) (w.heap.size + 1) sX (xS w) (.slice none 0 0) (.slice none 0 0) := by
    have := SBox.new (w1X w) sX (xS w) (.slice none 0 0) (.slice none 0 0)
    rwa [s1] at this
  have c3 : ∀ (j : Nat) (u : Value), (#[.int .i64 6, .int .i64 0, .string ⟨#[]⟩, .int .i64 0, .string ⟨#[]⟩, xS w, .slice none 0 0, .slice none 0 0, .int .i64 6, .int .i64 0, .string ⟨#[]⟩, .int .i64 0, .string ⟨#[]⟩, xS w, .slice none 0 0, .slice none 0 0] : Array Value)[j]? = some u → (w5X w).cell? ⟨w.heap.size + 1 + 1, j, none⟩ = some u := fun j u h => by
    have k := newCell (w2X w) _ 46 j u h
    rw [s2] at k
    exact (b45.cell (p := ⟨w.heap.size + 1 + 1, j, none⟩) (by show w.heap.size + 1 + 1 < _; omega)).trans k
  have f4 : FBox (w4X w) (w.heap.size + 1 + 1 + 1) fM (.slice none 0 0) (.slice (some ⟨w.heap.size + 1 + 1, 0, none⟩) 2 2) := by
    have := FBox.new (w3X w) fM (.slice none 0 0) (.slice (some ⟨w.heap.size + 1 + 1, 0, none⟩) 2 2)
    rwa [s3] at this
  have f5 := f4.keep b5 (by omega)
  have hb : SR (w5X w) (fun b => b < (w5X w).heap.size) fM.body (.slice (some ⟨w.heap.size + 1 + 1, 0, none⟩) 2 2) := by
    refine .mk [sX, sX] _ 2 (fun _ => xS w) (fun _ => .slice none 0 0) (fun _ => .slice none 0 0) (by decide) (fun i s hi => ?_) (fun i s hi => ?_) (fun i s hi => ?_) (fun i s hi => ?_)
    · rcases i with _ | _ | i
      · cases hi
        exact ⟨_, 0, rfl, by omega, oks, c3 0 _ rfl, c3 1 _ rfl, c3 2 _ rfl, c3 3 _ rfl, c3 4 _ rfl, c3 5 _ rfl, c3 6 _ rfl, c3 7 _ rfl⟩
      · cases hi
        exact ⟨_, 0, rfl, by omega, oks, c3 8 _ rfl, c3 9 _ rfl, c3 10 _ rfl, c3 11 _ rfl, c3 12 _ rfl, c3 13 _ rfl, c3 14 _ rfl, c3 15 _ rfl⟩
      · simp at hi
    · rcases i with _ | _ | i
      · cases hi; exact e5
      · cases hi; exact e5
      · simp at hi
    · rcases i with _ | _ | i
      · cases hi; exact SR.nil _ _
      · cases hi; exact SR.nil _ _
      · simp at hi
    · rcases i with _ | _ | i
      · cases hi; exact SR.nil _ _
      · cases hi; exact SR.nil _ _
      · simp at hi
  refine ⟨after (bal _ _) (after b2 b345), s5, e5, x2.keep (M := (w2X w).heap.size) b345 (by omega), ⟨_, _, rfl, by decide, fun i f hi => ?_⟩, ?_⟩
  · rcases i with _ | i
    · cases hi
      exact ⟨_, 0, _, _, rfl, by omega, okf, ⟨f5.c0, f5.c1, f5.c2, f5.c3, f5.c4⟩, PR.nil _ _, hb⟩
    · simp at hi
  · have k := newCell (w4X w) #[.slice (some ⟨w.heap.size + 1 + 1 + 1, 0, none⟩) 1 1] 35 0 _ rfl
    rwa [s4] at k

set_option maxRecDepth 100000 in
set_option maxHeartbeats 8000000 in
theorem works_calls (w : World) (hG : Glob w) : Calls Tryd.prog 12 #[] w fun e w' => e = .returned (.bool true) ∧ Below w.heap.size w w' := by
  have HG := Lib.hid hG
  have HGK := Lib.hid (fun o => (hG.al o).kw)
  clear hG
  go_enter Tryd.func12, Tryd.ntmps12
  go_wp2_with fail
  refine wp_loop_rounds 4 ?_
  rw [rounds_succ]
  go_wp2_with fail
  refine (nmY0 _ (HGK.out _)).mono ?_
  rintro e w1 ⟨rfl, rfl⟩
  go_wp2_with fail
  rw [rounds_succ]
  go_wp2_with fail
  refine (nmY1 _ (HGK.out _)).mono ?_
  rintro e w1 ⟨rfl, rfl⟩
  go_wp2_with fail
  rw [rounds_succ]
  go_wp2_with fail
  refine (nmY2 _ (HGK.out _)).mono ?_
  rintro e w1 ⟨rfl, rfl⟩
  go_wp2_with fail
  rw [rounds_succ]
  go_wp2_with fail
  have HGK := Lib.hid (fun o1 o2 => ((HG.out.al o1).al o2).kw)
  refine wp_loop_rounds 7 ?_
  rw [rounds_succ]
  go_wp2_with fail
  refine (nmN0 _ (HGK.out _ _)).mono ?_
  rintro e w1 ⟨rfl, rfl⟩
  go_wp2_with fail
  rw [rounds_succ]
  go_wp2_with fail
  refine (nmN1 _ (HGK.out _ _)).mono ?_
  rintro e w1 ⟨rfl, rfl⟩
  go_wp2_with fail
  rw [rounds_succ]
  go_wp2_with fail
  refine (nmN2 _ (HGK.out _ _)).mono ?_
  rintro e w1 ⟨rfl, rfl⟩
  go_wp2_with fail
  rw [rounds_succ]
  go_wp2_with fail
  refine (nmN3 _ (HGK.out _ _)).mono ?_
  rintro e w1 ⟨rfl, rfl⟩
  go_wp2_with fail
  rw [rounds_succ]
  go_wp2_with fail
  refine (nmN4 _ (HGK.out _ _)).mono ?_
  rintro e w1 ⟨rfl, rfl⟩
  go_wp2_with fail
  rw [rounds_succ]
  go_wp2_with fail
  refine (nmN5 _ (HGK.out _ _)).mono ?_
  rintro e w1 ⟨rfl, rfl⟩
  go_wp2_with fail
  rw [rounds_succ]
  go_wp2_with fail
  refine (num_calls _ _).mono ?_
  rintro e w3 ⟨rfl, hb⟩
  have HB3 := Lib.hid (after (bal2 w _ _) hb)
  clear hb
  go_wp2_with fail
  refine (num_calls _ _).mono ?_
  rintro e w4 ⟨rfl, hb⟩
  have HB4 := Lib.hid (after HB3.out hb)
  clear hb
  go_wp2_with fail
  have HB5 := Lib.hid (show Below w.heap.size w ((w4.alloc (.cells #[.int .i64 1, .int .i64 0, .int .i64 1, .string (B []), .slice none 0 0] 24)).alloc (.cells #[.int .i64 1, .int .i64 0, .int .i64 (-5), .string (B []), .slice none 0 0, .int .i64 2, .int .i64 0, .int .i64 2, .string ⟨#[]⟩, .slice none 0 0, .int .i64 3, .int .i64 0, .int .i64 1, .string ⟨#[120]⟩, .slice none 0 0, .int .i64 4, .int .i64 1, .int .i64 0, .string ⟨#[]⟩, .slice (some ⟨w4.heap.size, 0, none⟩) 1 1, .int .i64 0, .int .i64 0, .int .i64 0, .string ⟨#[]⟩, .slice none 0 0] 24)) from (HB4.out.alloc HB4.out.size _).alloc (by have := HB4.out.size; simp; omega) _)
  have HT := Lib.hid (fun (j : Nat) (u : Value) (h : (#[.int .i64 1, .int .i64 0, .int .i64 (-5), .string (B []), .slice none 0 0, .int .i64 2, .int .i64 0, .int .i64 2, .string ⟨#[]⟩, .slice none 0 0, .int .i64 3, .int .i64 0, .int .i64 1, .string ⟨#[120]⟩, .slice none 0 0, .int .i64 4, .int .i64 1, .int .i64 0, .string ⟨#[]⟩, .slice (some ⟨w4.heap.size, 0, none⟩) 1 1, .int .i64 0, .int .i64 0, .int .i64 0, .string ⟨#[]⟩, .slice none 0 0] : Array Value)[j]? = some u) => kRow w4 (.cells #[.int .i64 1, .int .i64 0, .int .i64 1, .string (B []), .slice none 0 0] 24) #[.int .i64 1, .int .i64 0, .int .i64 (-5), .string (B []), .slice none 0 0, .int .i64 2, .int .i64 0, .int .i64 2, .string ⟨#[]⟩, .slice none 0 0, .int .i64 3, .int .i64 0, .int .i64 1, .string ⟨#[120]⟩, .slice none 0 0, .int .i64 4, .int .i64 1, .int .i64 0, .string ⟨#[]⟩, .slice (some ⟨w4.heap.size, 0, none⟩) 1 1, .int .i64 0, .int .i64 0, .int .i64 0, .string ⟨#[]⟩, .slice none 0 0] j u h (T := 24))
  have HA := Lib.hid (show EIn ((w4.alloc (.cells #[.int .i64 1, .int .i64 0, .int .i64 1, .string (B []), .slice none 0 0] 24)).alloc (.cells #[.int .i64 1, .int .i64 0, .int .i64 (-5), .string (B []), .slice none 0 0, .int .i64 2, .int .i64 0, .int .i64 2, .string ⟨#[]⟩, .slice none 0 0, .int .i64 3, .int .i64 0, .int .i64 1, .string ⟨#[120]⟩, .slice none 0 0, .int .i64 4, .int .i64 1, .int .i64 0, .string ⟨#[]⟩, .slice (some ⟨w4.heap.size, 0, none⟩) 1 1, .int .i64 0, .int .i64 0, .int .i64 0, .string ⟨#[]⟩, .slice none 0 0] 24)) (((w4.alloc (.cells #[.int .i64 1, .int .i64 0, .int .i64 1, .string (B []), .slice none 0 0] 24)).alloc (.cells #[.int .i64 1, .int .i64 0, .int .i64 (-5), .string (B []), .slice none 0 0, .int .i64 2, .int .i64 0, .int .i64 2, .string ⟨#[]⟩, .slice none 0 0, .int .i64 3, .int .i64 0, .int .i64 1, .string ⟨#[120]⟩, .slice none 0 0, .int .i64 4, .int .i64 1, .int .i64 0, .string ⟨#[]⟩, .slice (some ⟨w4.heap.size, 0, none⟩) 1 1, .int .i64 0, .int .i64 0, .int .i64 0, .string ⟨#[]⟩, .slice none 0 0] 24))).heap.size [⟨1, 0, 1, [], []⟩] (.slice (some ⟨w4.heap.size, 0, none⟩) 1 1) from
    (EIn.one (v := .slice none 0 0) (by simp) ⟨by unfold okI; decide, by unfold okI; decide, by unfold okI; decide, by decide⟩ (EBox.new w4 ⟨1, 0, 1, [], []⟩ (.slice none 0 0)) (ER.nil _ _) : EIn (w4.alloc (.cells #[.int .i64 1, .int .i64 0, .int .i64 1, .string (B []), .slice none 0 0] 24)) (w4.alloc (.cells #[.int .i64 1, .int .i64 0, .int .i64 1, .string (B []), .slice none 0 0] 24)).heap.size _ _).al _)
  have hs5 : w4.heap.size + 1 < (((w4.alloc (.cells #[.int .i64 1, .int .i64 0, .int .i64 1, .string (B []), .slice none 0 0] 24)).alloc (.cells #[.int .i64 1, .int .i64 0, .int .i64 (-5), .string (B []), .slice none 0 0, .int .i64 2, .int .i64 0, .int .i64 2, .string ⟨#[]⟩, .slice none 0 0, .int .i64 3, .int .i64 0, .int .i64 1, .string ⟨#[120]⟩, .slice none 0 0, .int .i64 4, .int .i64 1, .int .i64 0, .string ⟨#[]⟩, .slice (some ⟨w4.heap.size, 0, none⟩) 1 1, .int .i64 0, .int .i64 0, .int .i64 0, .string ⟨#[]⟩, .slice none 0 0] 24))).heap.size := by simp
  have HGV := Lib.hid (HG.out.up HB5.out)
  generalize ((w4.alloc (.cells #[.int .i64 1, .int .i64 0, .int .i64 1, .string (B []), .slice none 0 0] 24)).alloc (.cells #[.int .i64 1, .int .i64 0, .int .i64 (-5), .string (B []), .slice none 0 0, .int .i64 2, .int .i64 0, .int .i64 2, .string ⟨#[]⟩, .slice none 0 0, .int .i64 3, .int .i64 0, .int .i64 1, .string ⟨#[120]⟩, .slice none 0 0, .int .i64 4, .int .i64 1, .int .i64 0, .string ⟨#[]⟩, .slice (some ⟨w4.heap.size, 0, none⟩) 1 1, .int .i64 0, .int .i64 0, .int .i64 0, .string ⟨#[]⟩, .slice none 0 0] 24)) = V0 at *
  have HV0 := Lib.hid (Below.refl V0.heap.size V0)
  refine wp_loop_rounds 6 ?_
  rw [rounds_succ]
  have t0 := (HV0.out.cell (p := ⟨w4.heap.size + 1, 0, none⟩) hs5).trans (HT.out 0 _ rfl)
  have t1 := (HV0.out.cell (p := ⟨w4.heap.size + 1, 1, none⟩) hs5).trans (HT.out 1 _ rfl)
  have t2 := (HV0.out.cell (p := ⟨w4.heap.size + 1, 2, none⟩) hs5).trans (HT.out 2 _ rfl)
  have t3 := (HV0.out.cell (p := ⟨w4.heap.size + 1, 3, none⟩) hs5).trans (HT.out 3 _ rfl)
  have t4 := (HV0.out.cell (p := ⟨w4.heap.size + 1, 4, none⟩) hs5).trans (HT.out 4 _ rfl)
  go_wp2_with fail
  refine (bad0 _ _ ?_ ?_).1.mono ?_
  · exact ER.nil _ _
  · exact (HGV.out.up HV0.out).al _
  rintro e V1 ⟨rfl, hb⟩
  have HV1 := Lib.hid (HV0.out.trans ((after (bal V0 _) hb).mono HV0.out.size))
  have u0 := (hb.cell (p := ⟨V0.heap.size, 0, none⟩) (by simp)).trans (newCell V0 #[.int .i64 1, .int .i64 0, .int .i64 (-5), .string (B []), .slice none 0 0] 24 0 _ rfl)
  have u1 := (hb.cell (p := ⟨V0.heap.size, 1, none⟩) (by simp)).trans (newCell V0 #[.int .i64 1, .int .i64 0, .int .i64 (-5), .string (B []), .slice none 0 0] 24 1 _ rfl)
  have u2 := (hb.cell (p := ⟨V0.heap.size, 2, none⟩) (by simp)).trans (newCell V0 #[.int .i64 1, .int .i64 0, .int .i64 (-5), .string (B []), .slice none 0 0] 24 2 _ rfl)
  have u3 := (hb.cell (p := ⟨V0.heap.size, 3, none⟩) (by simp)).trans (newCell V0 #[.int .i64 1, .int .i64 0, .int .i64 (-5), .string (B []), .slice none 0 0] 24 3 _ rfl)
  have u4 := (hb.cell (p := ⟨V0.heap.size, 4, none⟩) (by simp)).trans (newCell V0 #[.int .i64 1, .int .i64 0, .int .i64 (-5), .string (B []), .slice none 0 0] 24 4 _ rfl)
  clear hb t0 t1 t2 t3 t4
  go_wp2_with fail
  refine (bad0 _ _ ?_ ?_).2.mono ?_
  · exact ER.nil _ _
  · exact HGV.out.up HV1.out
  rintro e V2 ⟨rfl, hb⟩
  have HV2 := Lib.hid (HV1.out.trans (hb.mono HV1.out.size))
  clear hb u0 u1 u2 u3 u4
  go_wp2_with fail
  rw [rounds_succ]
  have t0 := (HV2.out.cell (p := ⟨w4.heap.size + 1, 5, none⟩) hs5).trans (HT.out 5 _ rfl)
  have t1 := (HV2.out.cell (p := ⟨w4.heap.size + 1, 6, none⟩) hs5).trans (HT.out 6 _ rfl)
  have t2 := (HV2.out.cell (p := ⟨w4.heap.size + 1, 7, none⟩) hs5).trans (HT.out 7 _ rfl)
  have t3 := (HV2.out.cell (p := ⟨w4.heap.size + 1, 8, none⟩) hs5).trans (HT.out 8 _ rfl)
  have t4 := (HV2.out.cell (p := ⟨w4.heap.size + 1, 9, none⟩) hs5).trans (HT.out 9 _ rfl)
  go_wp2_with fail
  refine (bad1 _ _ ?_ ?_).1.mono ?_
  · exact ER.nil _ _
  · exact (HGV.out.up HV2.out).al _
  rintro e V3 ⟨rfl, hb⟩
  have HV3 := Lib.hid (HV2.out.trans ((after (bal V2 _) hb).mono HV2.out.size))
  have u0 := (hb.cell (p := ⟨V2.heap.size, 0, none⟩) (by simp)).trans (newCell V2 #[.int .i64 2, .int .i64 0, .int .i64 2, .string ⟨#[]⟩, .slice none 0 0] 24 0 _ rfl)
  have u1 := (hb.cell (p := ⟨V2.heap.size, 1, none⟩) (by simp)).trans (newCell V2 #[.int .i64 2, .int .i64 0, .int .i64 2, .string ⟨#[]⟩, .slice none 0 0] 24 1 _ rfl)
  have u2 := (hb.cell (p := ⟨V2.heap.size, 2, none⟩) (by simp)).trans (newCell V2 #[.int .i64 2, .int .i64 0, .int .i64 2, .string ⟨#[]⟩, .slice none 0 0] 24 2 _ rfl)
  have u3 := (hb.cell (p := ⟨V2.heap.size, 3, none⟩) (by simp)).trans (newCell V2 #[.int .i64 2, .int .i64 0, .int .i64 2, .string ⟨#[]⟩, .slice none 0 0] 24 3 _ rfl)
  have u4 := (hb.cell (p := ⟨V2.heap.size, 4, none⟩) (by simp)).trans (newCell V2 #[.int .i64 2, .int .i64 0, .int .i64 2, .string ⟨#[]⟩, .slice none 0 0] 24 4 _ rfl)
  clear hb t0 t1 t2 t3 t4
  go_wp2_with fail
  refine (bad1 _ _ ?_ ?_).2.mono ?_
  · exact ER.nil _ _
  · exact HGV.out.up HV3.out
  rintro e V4 ⟨rfl, hb⟩
  have HV4 := Lib.hid (HV3.out.trans (hb.mono HV3.out.size))
  clear hb u0 u1 u2 u3 u4
  go_wp2_with fail
  rw [rounds_succ]
  have t0 := (HV4.out.cell (p := ⟨w4.heap.size + 1, 10, none⟩) hs5).trans (HT.out 10 _ rfl)
  have t1 := (HV4.out.cell (p := ⟨w4.heap.size + 1, 11, none⟩) hs5).trans (HT.out 11 _ rfl)
  have t2 := (HV4.out.cell (p := ⟨w4.heap.size + 1, 12, none⟩) hs5).trans (HT.out 12 _ rfl)
  have t3 := (HV4.out.cell (p := ⟨w4.heap.size + 1, 13, none⟩) hs5).trans (HT.out 13 _ rfl)
  have t4 := (HV4.out.cell (p := ⟨w4.heap.size + 1, 14, none⟩) hs5).trans (HT.out 14 _ rfl)
  go_wp2_with fail
  refine (bad2 _ _ ?_ ?_).1.mono ?_
  · exact ER.nil _ _
  · exact (HGV.out.up HV4.out).al _
  rintro e V5 ⟨rfl, hb⟩
  have HV5 := Lib.hid (HV4.out.trans ((after (bal V4 _) hb).mono HV4.out.size))
  have u0 := (hb.cell (p := ⟨V4.heap.size, 0, none⟩) (by simp)).trans (newCell V4 #[.int .i64 3, .int .i64 0, .int .i64 1, .string ⟨#[120]⟩, .slice none 0 0] 24 0 _ rfl)
  have u1 := (hb.cell (p := ⟨V4.heap.size, 1, none⟩) (by simp)).trans (newCell V4 #[.int .i64 3, .int .i64 0, .int .i64 1, .string ⟨#[120]⟩, .slice none 0 0] 24 1 _ rfl)
  have u2 := (hb.cell (p := ⟨V4.heap.size, 2, none⟩) (by simp)).trans (newCell V4 #[.int .i64 3, .int .i64 0, .int .i64 1, .string ⟨#[120]⟩, .slice none 0 0] 24 2 _ rfl)
  have u3 := (hb.cell (p := ⟨V4.heap.size, 3, none⟩) (by simp)).trans (newCell V4 #[.int .i64 3, .int .i64 0, .int .i64 1, .string ⟨#[120]⟩, .slice none 0 0] 24 3 _ rfl)
  have u4 := (hb.cell (p := ⟨V4.heap.size, 4, none⟩) (by simp)).trans (newCell V4 #[.int .i64 3, .int .i64 0, .int .i64 1, .string ⟨#[120]⟩, .slice none 0 0] 24 4 _ rfl)
  clear hb t0 t1 t2 t3 t4
  go_wp2_with fail
  refine (bad2 _ _ ?_ ?_).2.mono ?_
  · exact ER.nil _ _
  · exact HGV.out.up HV5.out
  rintro e V6 ⟨rfl, hb⟩
  have HV6 := Lib.hid (HV5.out.trans (hb.mono HV5.out.size))
  clear hb u0 u1 u2 u3 u4
  go_wp2_with fail
  rw [rounds_succ]
  have t0 := (HV6.out.cell (p := ⟨w4.heap.size + 1, 15, none⟩) hs5).trans (HT.out 15 _ rfl)
  have t1 := (HV6.out.cell (p := ⟨w4.heap.size + 1, 16, none⟩) hs5).trans (HT.out 16 _ rfl)
  have t2 := (HV6.out.cell (p := ⟨w4.heap.size + 1, 17, none⟩) hs5).trans (HT.out 17 _ rfl)
  have t3 := (HV6.out.cell (p := ⟨w4.heap.size + 1, 18, none⟩) hs5).trans (HT.out 18 _ rfl)
  have t4 := (HV6.out.cell (p := ⟨w4.heap.size + 1, 19, none⟩) hs5).trans (HT.out 19 _ rfl)
  go_wp2_with fail
  refine (bad3 _ _ ?_ ?_).1.mono ?_
  · exact (HA.out.up HV6.out).al _
  · exact (HGV.out.up HV6.out).al _
  rintro e V7 ⟨rfl, hb⟩
  have HV7 := Lib.hid (HV6.out.trans ((after (bal V6 _) hb).mono HV6.out.size))
  have u0 := (hb.cell (p := ⟨V6.heap.size, 0, none⟩) (by simp)).trans (newCell V6 #[.int .i64 4, .int .i64 1, .int .i64 0, .string ⟨#[]⟩, .slice (some ⟨w4.heap.size, 0, none⟩) 1 1] 24 0 _ rfl)
  have u1 := (hb.cell (p := ⟨V6.heap.size, 1, none⟩) (by simp)).trans (newCell V6 #[.int .i64 4, .int .i64 1, .int .i64 0, .string ⟨#[]⟩, .slice (some ⟨w4.heap.size, 0, none⟩) 1 1] 24 1 _ rfl)
  have u2 := (hb.cell (p := ⟨V6.heap.size, 2, none⟩) (by simp)).trans (newCell V6 #[.int .i64 4, .int .i64 1, .int .i64 0, .string ⟨#[]⟩, .slice (some ⟨w4.heap.size, 0, none⟩) 1 1] 24 2 _ rfl)
  have u3 := (hb.cell (p := ⟨V6.heap.size, 3, none⟩) (by simp)).trans (newCell V6 #[.int .i64 4, .int .i64 1, .int .i64 0, .string ⟨#[]⟩, .slice (some ⟨w4.heap.size, 0, none⟩) 1 1] 24 3 _ rfl)
  have u4 := (hb.cell (p := ⟨V6.heap.size, 4, none⟩) (by simp)).trans (newCell V6 #[.int .i64 4, .int .i64 1, .int .i64 0, .string ⟨#[]⟩, .slice (some ⟨w4.heap.size, 0, none⟩) 1 1] 24 4 _ rfl)
  clear hb t0 t1 t2 t3 t4
  go_wp2_with fail
  refine (bad3 _ _ ?_ ?_).2.mono ?_
  · exact HA.out.up HV7.out
  · exact HGV.out.up HV7.out
  rintro e V8 ⟨rfl, hb⟩
  have HV8 := Lib.hid (HV7.out.trans (hb.mono HV7.out.size))
  clear hb u0 u1 u2 u3 u4
  go_wp2_with fail
  rw [rounds_succ]
  have t0 := (HV8.out.cell (p := ⟨w4.heap.size + 1, 20, none⟩) hs5).trans (HT.out 20 _ rfl)
  have t1 := (HV8.out.cell (p := ⟨w4.heap.size + 1, 21, none⟩) hs5).trans (HT.out 21 _ rfl)
  have t2 := (HV8.out.cell (p := ⟨w4.heap.size + 1, 22, none⟩) hs5).trans (HT.out 22 _ rfl)
  have t3 := (HV8.out.cell (p := ⟨w4.heap.size + 1, 23, none⟩) hs5).trans (HT.out 23 _ rfl)
  have t4 := (HV8.out.cell (p := ⟨w4.heap.size + 1, 24, none⟩) hs5).trans (HT.out 24 _ rfl)
  go_wp2_with fail
  refine (bad4 _ _ ?_ ?_).1.mono ?_
  · exact ER.nil _ _
  · exact (HGV.out.up HV8.out).al _
  rintro e V9 ⟨rfl, hb⟩
  have HV9 := Lib.hid (HV8.out.trans ((after (bal V8 _) hb).mono HV8.out.size))
  have u0 := (hb.cell (p := ⟨V8.heap.size, 0, none⟩) (by simp)).trans (newCell V8 #[.int .i64 0, .int .i64 0, .int .i64 0, .string ⟨#[]⟩, .slice none 0 0] 24 0 _ rfl)
  have u1 := (hb.cell (p := ⟨V8.heap.size, 1, none⟩) (by simp)).trans (newCell V8 #[.int .i64 0, .int .i64 0, .int .i64 0, .string ⟨#[]⟩, .slice none 0 0] 24 1 _ rfl)
  have u2 := (hb.cell (p := ⟨V8.heap.size, 2, none⟩) (by simp)).trans (newCell V8 #[.int .i64 0, .int .i64 0, .int .i64 0, .string ⟨#[]⟩, .slice none 0 0] 24 2 _ rfl)
  have u3 := (hb.cell (p := ⟨V8.heap.size, 3, none⟩) (by simp)).trans (newCell V8 #[.int .i64 0, .int .i64 0, .int .i64 0, .string ⟨#[]⟩, .slice none 0 0] 24 3 _ rfl)
  have u4 := (hb.cell (p := ⟨V8.heap.size, 4, none⟩) (by simp)).trans (newCell V8 #[.int .i64 0, .int .i64 0, .int .i64 0, .string ⟨#[]⟩, .slice none 0 0] 24 4 _ rfl)
  clear hb t0 t1 t2 t3 t4
  go_wp2_with fail
  refine (bad4 _ _ ?_ ?_).2.mono ?_
  · exact ER.nil _ _
  · exact HGV.out.up HV9.out
  rintro e V10 ⟨rfl, hb⟩
  have HV10 := Lib.hid (HV9.out.trans (hb.mono HV9.out.size))
  clear hb u0 u1 u2 u3 u4
  go_wp2_with fail
  rw [rounds_succ]
  go_wp2_with fail
  have HBW := Lib.hid (HB5.out.trans (HV10.out.mono HB5.out.size))
  clear HT HA HV0 HV1 HV2 HV3 HV4 HV5 HV6 HV7 HV8 HV9 HV10 HGV HB3 HB4 HB5 HGK
  have OK1 := Lib.hid (show ∀ n : Int, okI n → OkE ⟨1, 0, n, [], []⟩ from fun n h => ⟨(by unfold okI; omega : okI 1), (by unfold okI; omega : okI 0), h, Nat.zero_le _⟩)
  refine (num_calls _ _).mono ?_
  rintro e wA ⟨rfl, hb⟩
  have HWA := Lib.hid (after HBW.out hb)
  clear hb
  go_wp2_with fail
  refine (num_calls _ _).mono ?_
  rintro e wB ⟨rfl, hb⟩
  have HWB := Lib.hid (after HWA.out hb)
  clear hb
  go_wp2_with fail
  refine (num_calls _ _).mono ?_
  rintro e wC ⟨rfl, hb⟩
  have HWC := Lib.hid (after HWB.out hb)
  clear hb
  go_wp2_with fail
  refine (binary_calls 3 ⟨1, 0, 2, [], []⟩ ⟨1, 0, 3, [], []⟩ (OK1.out 2 (by unfold okI; decide)) (OK1.out 3 (by unfold okI; decide)) (.slice none 0 0) (.slice none 0 0) wC (ER.nil _ _) (ER.nil _ _)).mono ?_
  rintro e wD ⟨v6, rfl, hb, hE6⟩
  obtain ⟨A6, c6, rfl⟩ := hE6.slice
  have HWD := Lib.hid (after HWC.out hb)
  have HE6 := Lib.hid hE6
  clear hb hE6
  go_wp2_with fail
  refine (binary_calls 1 ⟨1, 0, 1, [], []⟩ ⟨5, 3, 0, [], [⟨1, 0, 2, [], []⟩, ⟨1, 0, 3, [], []⟩]⟩ (OK1.out 1 (by unfold okI; decide)) ⟨by unfold okI; decide, by unfold okI; decide, by unfold okI; decide, by decide⟩ (.slice none 0 0) _ wD (ER.nil _ _) HE6.out).mono ?_
  rintro e wE ⟨v7, rfl, hb, hE7⟩
  obtain ⟨A7, c7, rfl⟩ := hE7.slice
  have HWE := Lib.hid (after HWD.out hb)
  have HE7 := Lib.hid hE7
  clear hb hE7
  go_wp2_with fail
  refine (name_fn_calls [120] _).mono ?_
  rintro e wF ⟨rfl, hb⟩
  have HWF := Lib.hid (after (HWE.out.alloc HWE.out.size _) hb)
  have X7 := Lib.hid ((EBox.new wE ⟨5, 1, 0, [], [⟨1, 0, 1, [], []⟩, ⟨5, 3, 0, [], [⟨1, 0, 2, [], []⟩, ⟨1, 0, 3, [], []⟩]⟩]⟩ (.slice A7 2 c7)).keep hb (by simp))
  have HE7F := Lib.hid ((HE7.out.al (eO ⟨5, 1, 0, [], [⟨1, 0, 1, [], []⟩, ⟨5, 3, 0, [], [⟨1, 0, 2, [], []⟩, ⟨1, 0, 3, [], []⟩]⟩]⟩ (.slice A7 2 c7))).up hb)
  have hz7 : wE.heap.size < wF.heap.size := by have := hb.size; simp at this; omega
  clear hb
  go_wp2_with fail
  have PI := Lib.hid (prog_in wF)
  refine (number_all [fM] _ _ ?_ ?_).mono ?_
  · exact PI.out.2.2.2.2.1
  · exact (HG.out.up HWF.out).up PI.out.1
  rintro e wG hN
  have hN := hN.fr (by rw [fM_numb]; decide)
  rw [fM_numb] at hN
  obtain ⟨vq, rfl, hb, hq⟩ := hN
  have HWG := Lib.hid (after (after HWF.out PI.out.1) hb)
  have HPG := Lib.hid (PI.out.2.2.2.2.1.up hb)
  have HXG := Lib.hid (PI.out.2.2.1.up hb)
  have HSG := Lib.hid (PI.out.2.2.2.1.keep hb (by rw [PI.out.2.1]; omega))
  have HPC := Lib.hid ((hb.cell (p := ⟨wF.heap.size + 1 + 1 + 1 + 1, 0, none⟩) (by show wF.heap.size + 1 + 1 + 1 + 1 < (w5X wF).heap.size; rw [PI.out.2.1]; omega)).trans PI.out.2.2.2.2.2)
  have X7G := Lib.hid ((X7.out.keep (M := wF.heap.size) PI.out.1 hz7).keep hb (by rw [PI.out.2.1]; omega))
  have HEG := Lib.hid ((HE7F.out.up PI.out.1).up hb)
  have hzG : wF.heap.size + 5 ≤ wG.heap.size := by have := hb.size; rw [PI.out.2.1] at this; exact this
  clear hb
  obtain ⟨Aq, cq, rfl⟩ := hq.slice
  obtain ⟨bq, oq, vp, vb, rfl, hbq, _, hfc, _, hsb⟩ := hq.at_ 0 (by decide)
  have hsb := hsb.keep (R' := fun b => b < wG.heap.size) (fun b h => h.2) (fun _ _ _ => rfl)
  obtain ⟨Ab, cb, rfl⟩ := hsb.slice
  obtain ⟨bb, ob, a0, a1, a2, rfl, hbb, _, hc0, _⟩ := (SIn.at_ (M := wG.heap.size) hsb).2 0 (by decide)
  obtain ⟨b2, o2, d0, d1, d2, he, _, _, hc1, _⟩ := (SIn.at_ (M := wG.heap.size) hsb).2 1 (by decide)
  cases he
  have k := fun b i h => (bal wG (.cells #[.slice (some ⟨bq, oq, none⟩) 1 cq] 35)).cell (p := ⟨b, i, none⟩) h
  have q3 := (k bq (oq + 3) hbq.2).trans hfc.c3
  have q4 := (k bq (oq + 4) hbq.2).trans hfc.c4
  have n0 := (k bb (ob + 1) hbb).trans hc0.c1
  have n1 := (k bb (ob + 8 + 1) hbb).trans hc1.c1
  obtain ⟨s0, s1, s2, s3, s4, s5, s6, s7⟩ := HSG.out
  have hsz : wF.heap.size + 1 < wG.heap.size := by omega
  have r0 := (k _ 0 hsz).trans s0
  have r1 := (k _ 1 hsz).trans s1
  have r2 := (k _ 2 hsz).trans s2
  have r3 := (k _ 3 hsz).trans s3
  have r4 := (k _ 4 hsz).trans s4
  have r5 := (k _ 5 hsz).trans s5
  have r6 := (k _ 6 hsz).trans s6
  have r7 := (k _ 7 hsz).trans s7
  clear s0 s1 s2 s3 s4 s5 s6 s7 hc0 hc1 hfc k
  go_wp2_with fail
  have T0 := SBox.new (wG.alloc (.cells #[.slice (some ⟨bq, oq, none⟩) 1 cq] 35)) { sX with no := 5 } (xS wF) (.slice none 0 0) (.slice none 0 0)
  rw [sz1] at T0
  have Q0 := newCell wG #[.slice (some ⟨bq, oq, none⟩) 1 cq] 35 0 _ rfl
  have bG := bal2 wG (.cells #[.slice (some ⟨bq, oq, none⟩) 1 cq] 35) (sO { sX with no := 5 } (xS wF) (.slice none 0 0) (.slice none 0 0))
  have kG := fun b i h => (bal (wG.alloc (.cells #[.slice (some ⟨bq, oq, none⟩) 1 cq] 35)) (sO { sX with no := 5 } (xS wF) (.slice none 0 0) (.slice none 0 0))).cell (p := ⟨b, i, none⟩) h
  rw [sz1] at kG
  have Q0 := Lib.hid ((kG wG.heap.size 0 (by show wG.heap.size < wG.heap.size + 1; omega)).trans Q0)
  have q3 := Lib.hid ((kG bq (oq + 3) (by show bq < wG.heap.size + 1; have : bq < wG.heap.size := hbq.2; omega)).trans q3)
  have q4 := Lib.hid ((kG bq (oq + 4) (by show bq < wG.heap.size + 1; have : bq < wG.heap.size := hbq.2; omega)).trans q4)
  have n0 := Lib.hid ((kG bb (ob + 1) (by show bb < wG.heap.size + 1; have : bb < wG.heap.size := hbb; omega)).trans n0)
  have n1 := Lib.hid ((kG bb (ob + 8 + 1) (by show bb < wG.heap.size + 1; have : bb < wG.heap.size := hbb; omega)).trans n1)
  clear r0 r1 r2 r3 r4 r5 r6 r7 kG
  have T0 := Lib.hid T0
  have hszH : (((wG.alloc (.cells #[.slice (some ⟨bq, oq, none⟩) 1 cq] 35)).alloc (sO { sX with no := 5 } (xS wF) (.slice none 0 0) (.slice none 0 0)))).heap.size = wG.heap.size + 2 := by rw [sz1, sz1]
  have HPG := Lib.hid (HPG.out.up bG)
  have HXG := Lib.hid (HXG.out.up bG)
  have HSG := Lib.hid (HSG.out.keep bG hsz)
  have HPC := Lib.hid ((bG.cell (p := ⟨wF.heap.size + 1 + 1 + 1 + 1, 0, none⟩) (by show wF.heap.size + 1 + 1 + 1 + 1 < wG.heap.size; omega)).trans HPC.out)
  have X7G := Lib.hid (X7G.out.keep bG (by omega))
  have HEG := Lib.hid (HEG.out.up bG)
  have HWG := Lib.hid (after HWG.out bG)
  have hb0 : bq < wG.heap.size := hbq.2
  have hb1 : bb < wG.heap.size := hbb
  clear bG HWF HWE HWD HWC HWB HWA HBW PI X7 HE7F HE6 HE7 hbq hsb hq
  generalize (((wG.alloc (.cells #[.slice (some ⟨bq, oq, none⟩) 1 cq] 35)).alloc (sO { sX with no := 5 } (xS wF) (.slice none 0 0) (.slice none 0 0)))) = H0 at *
  have HH := Lib.hid (Below.refl H0.heap.size H0)
  have HGH := Lib.hid (HG.out.up HWG.out)
  refine (num_calls _ _).mono ?_
  rintro e H1 ⟨rfl, hb⟩
  have HH := Lib.hid (after HH.out hb)
  clear hb
  go_wp2_with fail
  refine (expr_calls ⟨1, 0, 5, [], []⟩ (OK1.out 5 (by unfold okI; decide)) (.slice none 0 0) _ ?_ ?_).mono ?_
  · exact ER.nil _ _
  · exact HGH.out.up HH.out
  rintro e H2 ⟨rfl, hb⟩
  rw [show exB ⟨1, 0, 5, [], []⟩ = true by decide +kernel]
  have HH := Lib.hid (after HH.out hb)
  clear hb
  go_wp2_with fail
  refine (num_calls _ _).mono ?_
  rintro e H3 ⟨rfl, hb⟩
  have HH := Lib.hid (after HH.out hb)
  clear hb
  go_wp2_with fail
  refine (depth_calls ⟨1, 0, 1, [], []⟩ (OK1.out 1 (by unfold okI; decide)) (.slice none 0 0) _ ?_ ?_).mono ?_
  · exact ER.nil _ _
  · exact HGH.out.up HH.out
  rintro e H4 ⟨rfl, hb⟩
  rw [show dep 20 ⟨1, 0, 1, [], []⟩ = 1 by decide +kernel]
  have HH := Lib.hid (after HH.out hb)
  clear hb
  obtain ⟨x0, x1, x2, x3, x4⟩ := X7G.out.keep HH.out (by omega)
  go_wp2_with fail
  clear x0 x1 x2 x3 x4
  refine (depth_calls ⟨5, 1, 0, [], [⟨1, 0, 1, [], []⟩, ⟨5, 3, 0, [], [⟨1, 0, 2, [], []⟩, ⟨1, 0, 3, [], []⟩]⟩]⟩ ⟨by unfold okI; decide, by unfold okI; decide, by unfold okI; decide, by decide⟩ (.slice A7 2 c7) _ ?_ ?_).mono ?_
  · exact HEG.out.up HH.out
  · exact HGH.out.up HH.out
  rintro e H5 ⟨rfl, hb⟩
  rw [show dep 20 ⟨5, 1, 0, [], [⟨1, 0, 1, [], []⟩, ⟨5, 3, 0, [], [⟨1, 0, 2, [], []⟩, ⟨1, 0, 3, [], []⟩]⟩]⟩ = 3 by decide +kernel]
  have HH := Lib.hid (after HH.out hb)
  clear hb
  go_wp2_with fail
  refine (check_calls [] (.slice none 0 0) _ ?_ ?_).mono ?_
  · exact FR.nil _ _
  · exact HGH.out.up HH.out
  rintro e H6 ⟨rfl, hb⟩
  rw [show errI (checkB []) = 0 by decide +kernel]
  have HH := Lib.hid (after HH.out hb)
  clear hb
  have pc := (HH.out.cell (p := ⟨wF.heap.size + 1 + 1 + 1 + 1, 0, none⟩) (by show wF.heap.size + 1 + 1 + 1 + 1 < H0.heap.size; omega)).trans HPC.out
  go_wp2_with fail
  clear pc
  refine (check_calls [fM] _ _ ?_ ?_).mono ?_
  · exact HPG.out.up HH.out
  · exact HGH.out.up HH.out
  rintro e H7 ⟨rfl, hb⟩
  rw [show errI (checkB [fM]) = 2 by decide +kernel]
  have HH := Lib.hid (after HH.out hb)
  clear hb
  have y0 := (HH.out.cell (p := ⟨wG.heap.size, 0, none⟩) (by show wG.heap.size < H0.heap.size; omega)).trans Q0.out
  have y1 := (HH.out.cell (p := ⟨bq, oq + 3, none⟩) (by show bq < H0.heap.size; omega)).trans q3.out
  have y2 := (HH.out.cell (p := ⟨bq, oq + 4, none⟩) (by show bq < H0.heap.size; omega)).trans q4.out
  have y3 := (HH.out.cell (p := ⟨bb, ob + 1, none⟩) (by show bb < H0.heap.size; omega)).trans n0.out
  have y4 := (HH.out.cell (p := ⟨bb, ob + 8 + 1, none⟩) (by show bb < H0.heap.size; omega)).trans n1.out
  obtain ⟨s0, s1, s2, s3, s4, s5, s6, s7⟩ := HSG.out.keep HH.out (by omega)
  obtain ⟨t0, t1, t2, t3, t4, t5, t6, t7⟩ := T0.out.keep HH.out (by omega)
  go_wp2_with fail
  clear y0 y1 y2 y3 y4 s0 s1 s2 s3 s4 s5 s6 s7 t0 t1 t2 t3 t4 t5 t6 t7
  refine (sameStmt_calls sX { sX with no := 5 } oks ⟨by unfold okI; decide, by unfold okI; decide, by unfold okI; decide, by decide, by decide⟩ _ _ _ _ _ _ _ ?_ ?_ ?_ ?_ ?_ ?_ ?_).mono ?_
  · exact HXG.out.up HH.out
  · exact SR.nil _ _
  · exact SR.nil _ _
  · exact HXG.out.up HH.out
  · exact SR.nil _ _
  · exact SR.nil _ _
  · exact HGH.out.up HH.out
  rintro e H8 ⟨rfl, hb⟩
  rw [show sameSt sX { sX with no := 5 } = true from sXt]
  have HH := Lib.hid (after HWG.out (after HH.out hb))
  clear hb
  go_wp2_with fail
  exact bodyPost_ret (v := .bool true) (by simp [results, Tryd.results12, go_sem]) rfl ⟨rfl, HH.out⟩
end Go.Proofs.YthiilnhiihfknaaDoor
