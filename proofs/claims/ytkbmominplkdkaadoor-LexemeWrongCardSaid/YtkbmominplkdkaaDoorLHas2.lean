/-
  has: its contract.
-/
import Derived.Test.YtkbmominplkdkaaDoorLHas
namespace Go.Proofs.YtkbmominplkdkaaDoor
open Go Go.RowKit Go.Sort

theorem has_wrong (s : Bytes) (hs : s.length ≤ 1000000) (L : List Tk) (v : Value) (w : World) (hG : Glob w) (hv : Toks w v L) (a : Nat) (hq : (scan s).2 = some a) :
    Calls Tryd.prog 18 #[.string (B s), v] w fun e w' => e = .returned (.bool false) ∧ Below w.heap.size w w' := by
  have C := Lib.hid (scan_calls s hs w hG)
  obtain ⟨A, c, rfl⟩ := hv.slice
  clear hG hv
  go_enter Tryd.func18, Tryd.ntmps18
  go_wp2_with fail
  refine C.out.mono ?_
  rintro e w1 ⟨hb, h1, h2⟩
  obtain rfl := h1 a hq
  have HB := Lib.hid hb
  clear hb h1 h2
  cases hn : ((a : Int) != 0) with
  | true =>
    go_wp2_with fail
    go_ret
    exact ⟨rfl, HB.out⟩
  | false =>
    go_wp2_with fail
    go_ret
    exact ⟨rfl, HB.out⟩
theorem has_len (s : Bytes) (hs : s.length ≤ 1000000) (L : List Tk) (v : Value) (w : World) (hG : Glob w) (hv : Toks w v L) (l : List Tk) (hq : scan s = (l, none)) (hn : l.length ≠ L.length) :
    Calls Tryd.prog 18 #[.string (B s), v] w fun e w' => e = .returned (.bool false) ∧ Below w.heap.size w w' := by
  have C := Lib.hid (scan_calls s hs w hG)
  obtain ⟨A, c, rfl⟩ := hv.slice
  have hd : ((l.length : Int) != (L.length : Int)) = true := by rw [bne_iff_ne]; omega
  clear hG hv hn
  go_enter Tryd.func18, Tryd.ntmps18
  go_wp2_with fail
  refine C.out.mono ?_
  rintro e w1 ⟨hb, h1, h2⟩
  obtain ⟨v', rfl, ho⟩ := h2 (by rw [hq])
  rw [hq] at ho
  obtain ⟨A', c', rfl⟩ := (Toks.of_own ho).slice
  have HB := Lib.hid hb
  clear hb h1 h2 ho
  generalize l.length = n at *
  generalize L.length = m at *
  go_wp2_with fail
  go_ret
  exact ⟨rfl, HB.out⟩
/-- The two tokens at an index, as the loop's region reads them, in every world of the class. -/
theorem TkR {w : World} {b o i : Nat} {t : Tk} (h : w.cell? ⟨b, o + i * 3, none⟩ = some (.int .i64 t.k) ∧ w.cell? ⟨b, o + i * 3 + 1, none⟩ = some (.string (B t.t)) ∧ w.cell? ⟨b, o + i * 3 + 2, none⟩ = some (.int .i64 (t.a : Int))) (d : Nat) (os : Array Obj) :
    (grow (redrawn w d) os).cell? ⟨b, o + i * 3, none⟩ = some (.int .i64 t.k) ∧ (grow (redrawn w d) os).cell? ⟨b, o + i * 3 + 1, none⟩ = some (.string (B t.t)) ∧ (grow (redrawn w d) os).cell? ⟨b, o + i * 3 + 2, none⟩ = some (.int .i64 (t.a : Int)) :=
  ⟨cell_regrown h.1 d os, cell_regrown h.2.1 d os, cell_regrown h.2.2 d os⟩

set_option maxRecDepth 100000 in
set_option maxHeartbeats 4000000 in
theorem has_loop (s : Bytes) (hs : s.length ≤ 1000000) (L : List Tk) (v : Value) (w : World) (hG : Glob w) (hv : Toks w v L) (l : List Tk) (hq : scan s = (l, none)) (hn : l.length = L.length) :
    Calls Tryd.prog 18 #[.string (B s), v] w fun e w' => e = .returned (.bool (decide (l = L))) ∧ Below w.heap.size w w' := by
  have C := Lib.hid (scan_calls s hs w hG)
  have HV := Lib.hid hv
  obtain ⟨A, c, rfl⟩ := hv.slice
  have hd : ((l.length : Int) != (l.length : Int)) = false := by simp
  clear hG hv
  go_enter Tryd.func18, Tryd.ntmps18
  go_wp2_with fail
  refine C.out.mono ?_
  rintro e w1 ⟨hb, h1, h2⟩
  obtain ⟨v', rfl, ho⟩ := h2 (by rw [hq])
  rw [hq] at ho
  have hll : l.length ≤ 9223372036854775807 := by
    rcases ho.2 with ⟨_, h⟩ | ⟨g, cap, cur, _, _, _, h3, h4, _⟩
    · simp at h; simp [h]
    · unfold maxLen at h4; simp only at h3; omega
  have ht := Toks.of_own ho
  obtain ⟨A', c', rfl⟩ := ht.slice
  have HT := Lib.hid ht
  have HV1 := Lib.hid (HV.out.below hb)
  have HB := Lib.hid hb
  clear hb h1 h2 ho HV ht C
  rw [← hn]
  rw [← hn] at HV1
  go_wp2_with fail
  go_loopw [8] (fun x wr => ∃ i : Nat, i ≤ l.length ∧ x = .int .i64 i ∧ Hid (∀ j, j < i → l[j]? = L[j]?) ∧ Hid (Below w1.heap.size w1 wr)) (fun x _ => l.length - (intOf x).toNat)
  case atStart => exact ⟨0, by omega, rfl, Lib.hid (fun j hj => by omega), Lib.hid (Below.refl _ _)⟩
  case round =>
    obtain ⟨i, hi, rfl, H, HR⟩ := hrel
    by_cases hlt : i < l.length
    · obtain ⟨x, hx⟩ : ∃ x, l[i]? = some x := ⟨_, List.getElem?_eq_getElem hlt⟩
      obtain ⟨y, hy⟩ : ∃ y, L[i]? = some y := ⟨_, List.getElem?_eq_getElem (by omega)⟩
      rcases HT.out.below HR.out with ⟨h0, _⟩ | ⟨_, b, o, c2, hA, hbl, hc⟩
      · rw [h0] at hlt; simp at hlt
      cases hA
      rcases HV1.out.below HR.out with ⟨h0, _⟩ | ⟨_, b', o', c3, hA, hbl', hc'⟩
      · rw [h0] at hn; rw [hn] at hlt; simp at hlt
      obtain ⟨rfl, -, -⟩ := Value.slice.inj hA
      have k1 := fun d os => (TkR (hc i x hx) d os).1
      have k2 := fun d os => (TkR (hc i x hx) d os).2.1
      have k3 := fun d os => (TkR (hc i x hx) d os).2.2
      have k4 := fun d os => (TkR (hc' i y hy) d os).1
      have k5 := fun d os => (TkR (hc' i y hy) d os).2.1
      have k6 := fun d os => (TkR (hc' i y hy) d os).2.2
      clear hc hc' hbl hbl'
      by_cases hxy : x = y
      · subst hxy
        have HX := Lib.hid (hx.trans hy.symm)
        clear hx hy
        go_wp2_with fail
        refine wp_region_quiet_below (by kernel_rfl) (by kernel_rfl) ?_
        repeat (first | go_big_quiet_step (fail) | quiet_step (fail))
        refine wpQuiet_nil ?_
        intro _ hw'
        obtain ⟨⟨dq, osq⟩, hw''⟩ := hw'
        subst hw''
        have HR := Lib.hid (HR.out.trans ((below_regrown wr dq osq).mono HR.out.size))
        clear k1 k2 k3 k4 k5 k6
        generalize grow (redrawn wr dq) osq = wz at *
        go_wp2_with fail
        go_roundw
        case rel =>
          refine ⟨i + 1, by omega, by go_num, Lib.hid (fun j hj => ?_), HR⟩
          rcases Nat.lt_or_ge j i with h1 | h1
          · exact H.out j h1
          · obtain rfl : j = i := by omega
            exact HX.out
        case measure => simp [intOf]; omega
      · have HE := Lib.hid (show decide (l = L) = false by
          rw [decide_eq_false_iff_not]
          rintro rfl
          rw [hx] at hy
          exact hxy (Option.some.inj hy))
        obtain ⟨xk, xt, xa⟩ := x
        obtain ⟨yk, yt, ya⟩ := y
        simp only at k1 k2 k3 k4 k5 k6
        clear hx hy
        by_cases q1 : xk = yk
        · subst q1
          by_cases q2 : xt = yt
          · subst q2
            have q3 : xa ≠ ya := by rintro rfl; exact hxy rfl
            have f3 : ((xa : Int) == (ya : Int)) = false := by rw [beq_eq_false_iff_ne]; omega
            have f4 : (xa == ya) = false := by rw [beq_eq_false_iff_ne]; exact q3
            clear hxy
            go_wp2_with fail
            refine wp_region_quiet_below (by kernel_rfl) (by kernel_rfl) ?_
            repeat (first | go_big_quiet_step (fail) | quiet_step (fail))
            refine wpQuiet_nil ?_
            intro _ hw'
            obtain ⟨⟨dq, osq⟩, hw''⟩ := hw'
            subst hw''
            have HR := Lib.hid (HR.out.trans ((below_regrown wr dq osq).mono HR.out.size))
            clear k1 k2 k3 k4 k5 k6
            generalize grow (redrawn wr dq) osq = wz at *
            go_wp2_with fail
            go_ret
            exact ⟨by rw [HE.out]; rfl, HB.out.trans (HR.out.mono HB.out.size)⟩
          · have f3 : (xt == yt) = false := by rw [beq_eq_false_iff_ne]; exact q2
            have f4 : ((B xt).toList == (B yt).toList) = false := by rw [Lib.toList_data, Lib.toList_data]; exact f3
            clear hxy
            go_wp2_with fail
            refine wp_region_quiet_below (by kernel_rfl) (by kernel_rfl) ?_
            repeat (first | go_big_quiet_step (fail) | quiet_step (fail))
            refine wpQuiet_nil ?_
            intro _ hw'
            obtain ⟨⟨dq, osq⟩, hw''⟩ := hw'
            subst hw''
            have HR := Lib.hid (HR.out.trans ((below_regrown wr dq osq).mono HR.out.size))
            clear k1 k2 k3 k4 k5 k6
            generalize grow (redrawn wr dq) osq = wz at *
            go_wp2_with fail
            go_ret
            exact ⟨by rw [HE.out]; rfl, HB.out.trans (HR.out.mono HB.out.size)⟩
        · have f3 : (xk == yk) = false := by rw [beq_eq_false_iff_ne]; exact q1
          clear hxy
          go_wp2_with fail
          refine wp_region_quiet_below (by kernel_rfl) (by kernel_rfl) ?_
          repeat (first | go_big_quiet_step (fail) | quiet_step (fail))
          refine wpQuiet_nil ?_
          intro _ hw'
          obtain ⟨⟨dq, osq⟩, hw''⟩ := hw'
          subst hw''
          have HR := Lib.hid (HR.out.trans ((below_regrown wr dq osq).mono HR.out.size))
          clear k1 k2 k3 k4 k5 k6
          generalize grow (redrawn wr dq) osq = wz at *
          go_wp2_with fail
          go_ret
          exact ⟨by rw [HE.out]; rfl, HB.out.trans (HR.out.mono HB.out.size)⟩
    · obtain rfl : i = l.length := by omega
      have HE := Lib.hid (show decide (l = L) = true by
        rw [decide_eq_true_eq]
        apply List.ext_getElem?
        intro j
        rcases Nat.lt_or_ge j l.length with h | h
        · exact H.out j h
        · rw [List.getElem?_eq_none h, List.getElem?_eq_none (by omega)])
      go_wp2_with fail
      go_ret
      exact ⟨by rw [HE.out]; rfl, HB.out.trans (HR.out.mono HB.out.size)⟩
theorem has_calls (s : Bytes) (hs : s.length ≤ 1000000) (L : List Tk) (v : Value) (w : World) (hG : Glob w) (hv : Toks w v L) :
    Calls Tryd.prog 18 #[.string (B s), v] w fun e w' => e = .returned (.bool (decide (scan s = (L, none)))) ∧ Below w.heap.size w w' := by
  cases hq : scan s with
  | mk l o =>
    cases o with
    | some a =>
      have h := has_wrong s hs L v w hG hv a (by rw [hq])
      rw [show decide ((l, some a) = (L, none)) = false by simp]
      exact h
    | none =>
      by_cases hn : l.length = L.length
      · have h := has_loop s hs L v w hG hv l hq hn
        rw [show decide ((l, (none : Option Nat)) = (L, none)) = decide (l = L) by simp]
        exact h
      · have h := has_len s hs L v w hG hv l hq hn
        rw [show decide ((l, (none : Option Nat)) = (L, none)) = false by simp; rintro rfl; exact hn rfl]
        exact h
end Go.Proofs.YtkbmominplkdkaaDoor
