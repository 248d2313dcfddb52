/-
  rewindref01.Of: its contract.
-/
import Derived.Test.YthjpcfohpbbacaaDoorPosMath
import Derived.Test.YthjpcfohpbbacaaDoorParse
import Derived.WalkKit
namespace Go.Proofs.YthjpcfohpbbacaaDoor
open Go Go.RowKit Go.Shelf Go.Sort

/-- The result's block and the place's own, on the way. -/
structure Walks (w W : World) (x y : Int) : Prop where
  below : Below w.heap.size w W
  c0 : Cell W ⟨w.heap.size, 0, none⟩ (.int .i64 0)
  c1 : Cell W ⟨w.heap.size, 1, none⟩ (.int .i64 0)
  p0 : Cell W ⟨w.heap.size + 1, 0, none⟩ (.int .i64 x)
  p1 : Cell W ⟨w.heap.size + 1, 1, none⟩ (.int .i64 y)
theorem Walks.col {w W : World} {x y : Int} (h : Walks w W x y) (z : Int) : Walks w (W.setCell ⟨w.heap.size + 1, 1, none⟩ (.int .i64 z)) x z :=
  ⟨h.below.setCell (by simp) _, h.c0.setOther (by intro h; injection h with h; omega) _, h.c1.setOther (by intro h; injection h with h; omega) _, h.p0.setOther (by intro h; cases h) _, h.p1.set _⟩
theorem Walks.line {w W : World} {x y : Int} (h : Walks w W x y) (z : Int) : Walks w (W.setCell ⟨w.heap.size + 1, 0, none⟩ (.int .i64 z)) z y :=
  ⟨h.below.setCell (by simp) _, h.c0.setOther (by intro h; injection h with h; omega) _, h.c1.setOther (by intro h; injection h with h; omega) _, h.p0.set _, h.p1.setOther (by intro h; cases h) _⟩

set_option maxRecDepth 100000 in
theorem end_of_refOf {x : Option (Int × Int)} {w W : World} {t : Array Value} {v0 v1 ev u0 u1 : Value} (hb : Below w.heap.size w W)
    (ht2 : t[4]? = some (.pointer (some ⟨w.heap.size, 0, none⟩))) (ht3 : t[5]? = some ev)
    (q0 : Cell W ⟨w.heap.size, 0, none⟩ u0) (q1 : Cell W ⟨w.heap.size, 1, none⟩ u1) (hv : encP x = .agg #[v0, v1]) (hev : encE 3 x = ev) :
    bodyPost Tryd.prog Tryd.f13 (fun e w' => e = Ending.returned (.tuple #[encP x, encE 3 x]) ∧ Below w.heap.size w w') Exit.ret
      { tmps := t, defers := [] } ((W.setCell ⟨w.heap.size, 0, none⟩ v0).setCell ⟨w.heap.size, 1, none⟩ v1) := by
  have h0 := (q0.set v0).setOther (q := ⟨w.heap.size, 1, none⟩) (by intro h; cases h) v1
  have h1 := (q1.setOther (q := ⟨w.heap.size, 0, none⟩) (by intro h; cases h) v0).set v1
  have hb2 := (hb.setCell (p := ⟨w.heap.size, 0, none⟩) (Nat.le_refl _) v0).setCell (p := ⟨w.heap.size, 1, none⟩) (Nat.le_refl _) v1
  generalize (W.setCell ⟨w.heap.size, 0, none⟩ v0).setCell ⟨w.heap.size, 1, none⟩ v1 = W2 at *
  obtain ⟨h0, _⟩ := h0
  obtain ⟨h1, _⟩ := h1
  rw [hv, hev]
  refine bodyPost_ret (v := .tuple #[.agg #[v0, v1], ev]) ?_ rfl ⟨rfl, hb2⟩
  simp [results, Tryd.results13, go_sem, h0, h1, ht2, ht3]

set_option maxRecDepth 100000 in
set_option maxHeartbeats 2000000 in
theorem of_ref_in (s : ByteArray) (hs : s.size ≤ 1000) (n : Nat) (hn : n ≤ s.size) (w : World) :
    Calls Tryd.prog 13 #[.string s, .int .i64 n] w fun e w' => e = .returned (.tuple #[encP (placeOf s.data.toList n), encE 3 (placeOf s.data.toList n)]) ∧ Below w.heap.size w w' := by
  rw [placeOf_pos _ n (by rw [← Lib.size_eq]; exact hn)]
  have HP := Lib.hid (fun k => pos_bounds s.data.toList k)
  go_enter Tryd.func13, Tryd.ntmps13
  go_wp2_with fail
  have W0 : Hid (Walks w ((w.alloc (.cells #[.int .i64 0, .int .i64 0] 24)).alloc (.cells #[.int .i64 1, .int .i64 1] 24)) 1 1) := Lib.hid
    ⟨((Below.refl _ w).alloc (Nat.le_refl _) _).alloc (by simp) _, (Cell.new w _ 24 0 _ rfl).alloc _, (Cell.new w _ 24 1 _ rfl).alloc _,
      by have h := Cell.new (w.alloc (.cells #[.int .i64 0, .int .i64 0] 24)) #[.int .i64 1, .int .i64 1] 24 0 _ rfl
         rwa [World.size_alloc] at h,
      by have h := Cell.new (w.alloc (.cells #[.int .i64 0, .int .i64 0] 24)) #[.int .i64 1, .int .i64 1] 24 1 _ rfl
         rwa [World.size_alloc] at h⟩
  go_loopw [7] (fun i wr => ∃ k : Nat, k ≤ n ∧ i = .int .i64 k ∧ Hid (Walks w wr (pos (s.data.toList.take k)).1 (pos (s.data.toList.take k)).2)) (fun i _ => n - (intOf i).toNat)
  case atStart => exact ⟨0, Nat.zero_le _, rfl, W0⟩
  case round =>
    obtain ⟨k, hk, rfl, hW⟩ := hrel
    by_cases hlt : k < n
    · have hks : k < s.size := by omega
      have hkl : k < s.data.toList.length := by rw [← Lib.size_eq]; exact hks
      have hstep := pos_snoc hkl
      have hbd := HP.out k
      obtain ⟨x, hx⟩ : ∃ x, (pos (s.data.toList.take k)).1 = x := ⟨_, rfl⟩
      obtain ⟨y, hy⟩ : ∃ y, (pos (s.data.toList.take k)).2 = y := ⟨_, rfl⟩
      rw [hx, hy] at hW hstep hbd
      obtain ⟨b1, b2, b3, b4⟩ := hbd
      have hge : s.data.toList[k] = s[k] := rfl
      rw [hge] at hstep
      have k0 := hW.out.p0.1
      have f0 := hW.out.p0.2
      have k1 := hW.out.p1.1
      have f1 := hW.out.p1.2
      by_cases hc : s[k] = 10
      · rw [if_pos hc] at hstep
        have hcb : ((s[k].toNat : Int) == 10) = true := by rw [hc]; rfl
        have HS := Lib.hid hstep
        clear hstep hc hx hy hge W0
        go_wp2_with fail
        go_roundw
        case rel =>
          refine ⟨k + 1, by omega, by go_num, Lib.hid ?_⟩
          rw [HS.out]
          exact ((hW.out.col _).line _).col _
        case measure => simp [intOf]; omega
      · rw [if_neg hc] at hstep
        have hcb : ((s[k].toNat : Int) == 10) = false := beq_eq_false_iff_ne.2 (fun h => hc (UInt8.toNat_inj.1 (by show s[k].toNat = 10; omega)))
        have HS := Lib.hid hstep
        clear hstep hc hx hy hge W0
        go_wp2_with fail
        go_roundw
        case rel =>
          refine ⟨k + 1, by omega, by go_num, Lib.hid ?_⟩
          rw [HS.out]
          exact hW.out.col _
        case measure => simp [intOf]; omega
    · obtain rfl : k = n := by omega
      clear W0 HP
      have k0 := hW.out.p0.1
      have k1 := hW.out.p1.1
      obtain ⟨d0, g0⟩ := hW.out.c0
      obtain ⟨d1, g1⟩ := hW.out.c1
      go_wp2_with fail
      exact end_of_refOf (x := some (pos (s.data.toList.take k))) hW.out.below rfl rfl ⟨d0, g0⟩ ⟨d1, g1⟩ rfl rfl

set_option maxRecDepth 100000 in
set_option maxHeartbeats 1000000 in
theorem of_ref (s : ByteArray) (hs : s.size ≤ 1000) (o : Int) (ho0 : -9223372036854775808 ≤ o) (ho1 : o ≤ 9223372036854775807) (w : World) :
    Calls Tryd.prog 13 #[.string s, .int .i64 o] w fun e w' => e = .returned (.tuple #[encP (placeOf s.data.toList o), encE 3 (placeOf s.data.toList o)]) ∧ Below w.heap.size w w' := by
  by_cases hin : 0 ≤ o ∧ o ≤ s.size
  · obtain ⟨n, rfl⟩ := Int.eq_ofNat_of_zero_le hin.1
    exact of_ref_in s hs n (by omega) w
  · rw [placeOf_out _ _ (by rw [← Lib.size_eq]; omega)]
    have c0 : Hid (Cell (w.alloc (.cells #[.int .i64 0, .int .i64 0] 24)) ⟨w.heap.size, 0, none⟩ (.int .i64 0)) := Lib.hid (Cell.new w _ 24 0 _ rfl)
    have c1 : Hid (Cell (w.alloc (.cells #[.int .i64 0, .int .i64 0] 24)) ⟨w.heap.size, 1, none⟩ (.int .i64 0)) := Lib.hid (Cell.new w _ 24 1 _ rfl)
    have k0 := c0.out.1
    have k1 := c1.out.1
    have g0 := c0.out.2
    have g1 := c1.out.2
    have B0 : Hid (Below w.heap.size w (w.alloc (.cells #[.int .i64 0, .int .i64 0] 24))) := Lib.hid ((Below.refl _ w).alloc (Nat.le_refl _) _)
    by_cases hneg : o < 0
    · go_enter Tryd.func13, Tryd.ntmps13
      go_wp2_with fail
      refine bodyPost_ret (v := .tuple #[encP none, encE 3 (none : Option (Int × Int))]) ?_ rfl ⟨rfl, B0.out⟩
      simp [results, Tryd.results13, go_sem, encP, encE]
    · go_enter Tryd.func13, Tryd.ntmps13
      go_wp2_with fail
      refine bodyPost_ret (v := .tuple #[encP none, encE 3 (none : Option (Int × Int))]) ?_ rfl ⟨rfl, B0.out⟩
      simp [results, Tryd.results13, go_sem, encP, encE]
end Go.Proofs.YthjpcfohpbbacaaDoor
