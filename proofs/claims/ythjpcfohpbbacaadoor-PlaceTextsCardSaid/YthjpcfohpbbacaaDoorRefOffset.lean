/-
  rewindref01.Offset: its contract.
-/
import Derived.Test.YthjpcfohpbbacaaDoorPosMath
import Derived.Test.YthjpcfohpbbacaaDoorParse
import Derived.WalkKit
namespace Go.Proofs.YthjpcfohpbbacaaDoor
open Go Go.RowKit Go.Shelf Go.Sort

/-- The argument's block and the place's own, on the way. -/
structure WalksO (w W : World) (l c x y : Int) : Prop where
  below : Below w.heap.size w W
  c0 : Cell W ⟨w.heap.size, 0, none⟩ (.int .i64 l)
  c1 : Cell W ⟨w.heap.size, 1, none⟩ (.int .i64 c)
  p0 : Cell W ⟨w.heap.size + 1, 0, none⟩ (.int .i64 x)
  p1 : Cell W ⟨w.heap.size + 1, 1, none⟩ (.int .i64 y)
theorem WalksO.col {w W : World} {l c x y : Int} (h : WalksO w W l c x y) (z : Int) : WalksO w (W.setCell ⟨w.heap.size + 1, 1, none⟩ (.int .i64 z)) l c x z :=
  ⟨h.below.setCell (by simp) _, h.c0.setOther (by intro h; injection h with h; omega) _, h.c1.setOther (by intro h; injection h with h; omega) _, h.p0.setOther (by intro h; cases h) _, h.p1.set _⟩
theorem WalksO.line {w W : World} {l c x y : Int} (h : WalksO w W l c x y) (z : Int) : WalksO w (W.setCell ⟨w.heap.size + 1, 0, none⟩ (.int .i64 z)) l c z y :=
  ⟨h.below.setCell (by simp) _, h.c0.setOther (by intro h; injection h with h; omega) _, h.c1.setOther (by intro h; injection h with h; omega) _, h.p0.set _, h.p1.setOther (by intro h; cases h) _⟩

set_option maxRecDepth 100000 in
set_option maxHeartbeats 4000000 in
theorem offset_ref (s : ByteArray) (hs : s.size ≤ 1000) (l c : Int) (w : World) :
    Calls Tryd.prog 15 #[.string s, .agg #[.int .i64 l, .int .i64 c]] w fun e w' => e = .returned (.tuple #[encI (placeOffset s.data.toList l c), encE 3 (placeOffset s.data.toList l c)]) ∧ Below w.heap.size w w' := by
  have HP := Lib.hid (fun k => pos_bounds s.data.toList k)
  go_enter Tryd.func15, Tryd.ntmps15
  go_wp2_with fail
  have W0 : Hid (WalksO w ((w.alloc (.cells #[.int .i64 l, .int .i64 c] 24)).alloc (.cells #[.int .i64 1, .int .i64 1] 24)) l c 1 1) := Lib.hid
    ⟨((Below.refl _ w).alloc (Nat.le_refl _) _).alloc (by simp) _, (Cell.new w _ 24 0 _ rfl).alloc _, (Cell.new w _ 24 1 _ rfl).alloc _,
      by have h := Cell.new (w.alloc (.cells #[.int .i64 l, .int .i64 c] 24)) #[.int .i64 1, .int .i64 1] 24 0 _ rfl
         rwa [World.size_alloc] at h,
      by have h := Cell.new (w.alloc (.cells #[.int .i64 l, .int .i64 c] 24)) #[.int .i64 1, .int .i64 1] 24 1 _ rfl
         rwa [World.size_alloc] at h⟩
  go_loopw [7] (fun i wr => ∃ k : Nat, k ≤ s.size + 1 ∧ i = .int .i64 k ∧ Hid (∀ j, j < k → pos (s.data.toList.take j) ≠ (l, c)) ∧ ∃ x y : Int, Hid (k ≤ s.size → pos (s.data.toList.take k) = (x, y)) ∧ Hid (WalksO w wr l c x y)) (fun i _ => s.size + 1 - (intOf i).toNat)
  case atStart => exact ⟨0, Nat.zero_le _, rfl, Lib.hid (fun j h => absurd h (Nat.not_lt_zero j)), 1, 1, Lib.hid (fun _ => rfl), W0⟩
  case round =>
    obtain ⟨k, hk, rfl, hN, x, y, hXY, hW⟩ := hrel
    clear W0
    by_cases hle : k ≤ s.size
    · have hbd := HP.out k
      have hp := hXY.out hle
      have hx : (pos (s.data.toList.take k)).1 = x := by rw [hp]
      have hy : (pos (s.data.toList.take k)).2 = y := by rw [hp]
      rw [hx, hy] at hbd
      clear hp hXY
      obtain ⟨b1, b2, b3, b4⟩ := hbd
      by_cases hxy : x = l ∧ y = c
      · obtain ⟨rfl, rfl⟩ := hxy
        have hres := placeOffset_of s.data.toList k x y (by rw [← Lib.size_eq]; exact hle) (Prod.ext hx hy)
        have HR := Lib.hid hres
        have k0 := hW.out.p0.1
        have k1 := hW.out.p1.1
        have k2 := hW.out.c0.1
        have k3 := hW.out.c1.1
        clear hres hx hy hN
        go_wp2_with fail
        go_ret2
        rw [HR.out]
        exact ⟨rfl, hW.out.below⟩
      · have hN2 : Hid (∀ j, j < k + 1 → pos (s.data.toList.take j) ≠ (l, c)) := Lib.hid (by
          intro j hj he
          rcases Nat.lt_or_ge j k with h | h
          · exact hN.out j h he
          · obtain rfl : j = k := by omega
            exact hxy ⟨hx.symm.trans (congrArg Prod.fst he), hy.symm.trans (congrArg Prod.snd he)⟩)
        have hcases : (x = l ∧ (y == c) = false) ∨ (x == l) = false := by
          by_cases h : x = l
          · left; exact ⟨h, beq_eq_false_iff_ne.2 (fun h2 => hxy ⟨h, h2⟩)⟩
          · right; exact beq_eq_false_iff_ne.2 h
        clear hxy hN
        rcases hcases with ⟨rfl, e1⟩ | e1
        all_goals
          by_cases hlt : k < s.size
          · have hkl : k < s.data.toList.length := by rw [← Lib.size_eq]; exact hlt
            have hstep := pos_snoc hkl
            rw [hx, hy] at hstep
            have hge : s.data.toList[k] = s[k] := rfl
            rw [hge] at hstep
            by_cases hc : s[k] = 10
            · rw [if_pos hc] at hstep
              have hcb : ((s[k].toNat : Int) == 10) = true := by rw [hc]; rfl
              have HS := Lib.hid hstep
              clear hstep hc hx hy hge
              have k0 := hW.out.p0.1
              have f0 := hW.out.p0.2
              have k1 := hW.out.p1.1
              have f1 := hW.out.p1.2
              have k2 := hW.out.c0.1
              have k3 := hW.out.c1.1
              go_wp2_with fail
              go_roundw
              case rel =>
                exact ⟨k + 1, by omega, by go_num, hN2, _, _, Lib.hid (fun _ => HS.out), Lib.hid (((hW.out.col _).line _).col _)⟩
              case measure => simp [intOf]; omega
            · rw [if_neg hc] at hstep
              have hcb : ((s[k].toNat : Int) == 10) = false := beq_eq_false_iff_ne.2 (fun h => hc (UInt8.toNat_inj.1 (by show s[k].toNat = 10; omega)))
              have HS := Lib.hid hstep
              clear hstep hc hx hy hge
              have k0 := hW.out.p0.1
              have f0 := hW.out.p0.2
              have k1 := hW.out.p1.1
              have f1 := hW.out.p1.2
              have k2 := hW.out.c0.1
              have k3 := hW.out.c1.1
              go_wp2_with fail
              go_roundw
              case rel =>
                exact ⟨k + 1, by omega, by go_num, hN2, _, _, Lib.hid (fun _ => HS.out), Lib.hid (hW.out.col _)⟩
              case measure => simp [intOf]; omega
          · obtain rfl : k = s.size := by omega
            have k0 := hW.out.p0.1
            have f0 := hW.out.p0.2
            have k1 := hW.out.p1.1
            have f1 := hW.out.p1.2
            have k2 := hW.out.c0.1
            have k3 := hW.out.c1.1
            go_wp2_with fail
            go_roundw
            case rel =>
              exact ⟨s.size + 1, by omega, by go_num, hN2, _, _, Lib.hid (fun h => absurd h (by omega)), Lib.hid (hW.out.col _)⟩
            case measure => simp [intOf]
    · obtain rfl : k = s.size + 1 := by omega
      have hnone : placeOffset s.data.toList l c = none := placeOffset_none _ _ _ (fun j hj => hN.out j (by rw [← Lib.size_eq] at hj; omega))
      have HR := Lib.hid hnone
      clear hN hnone
      go_wp2_with fail
      go_ret2
      rw [HR.out]
      exact ⟨rfl, hW.out.below⟩
end Go.Proofs.YthjpcfohpbbacaaDoor
