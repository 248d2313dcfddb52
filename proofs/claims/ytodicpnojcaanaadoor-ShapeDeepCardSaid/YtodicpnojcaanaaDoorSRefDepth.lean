/-
  The reference's depth, Depth, Expr: contracts.
-/
import Derived.Test.YtodicpnojcaanaaDoorSDepth
namespace Go.Proofs.YtodicpnojcaanaaDoor
open Go Go.RowKit

set_option maxHeartbeats 2000000 in
theorem refDepth1_calls (k : Nat) : ∀ (e : Ex) (v : Value) (w : World), k ≤ 20 → OkE e → EIn w w.heap.size e.args v →
    Calls Tryd.prog 49 #[eV e v, .int .i64 (k : Int)] w fun x w' => x = .returned (.int .i64 (dep k e : Nat)) ∧ Below w.heap.size w w' := by
  have ha : ∀ (w : World) (o : Obj), Below w.heap.size w (w.alloc o) := fun w o => (Below.refl _ w).alloc (Nat.le_refl _) _
  have HA := Lib.hid ha
  clear ha
  induction k with
  | zero =>
    intro e v w _ ho hE
    obtain ⟨A, c, rfl⟩ := hE.slice
    have hle := hE.le
    have C := fields_calls e ho (.slice A e.args.length c) (w.alloc (.cells #[.int .i64 e.kind, .int .i64 e.op, .int .i64 e.num, .string (B e.name), .slice A e.args.length c] 24))
    have HC := Lib.hid C
    clear C hE
    have k4 := newCell w #[.int .i64 e.kind, .int .i64 e.op, .int .i64 e.num, .string (B e.name), .slice A e.args.length c] 24 4 _ rfl
    have HK := Lib.hid k4
    clear k4
    cases hf : fldB e with
    | false =>
      have C := HC.out
      rw [hf] at C
      have HC := Lib.hid C
      clear C hf
      go_enter Tryd.func49, Tryd.ntmps49
      go_wp2_with fail
      refine HC.out.mono ?_
      rintro x w1 ⟨rfl, hb⟩
      have HB := Lib.hid (after (HA.out w _) hb)
      clear hb
      go_wp2_with fail
      go_ret
      exact ⟨rfl, HB.out⟩
    | true =>
      have C := HC.out
      rw [hf] at C
      by_cases hl : (e.args.length : Int) = fldN e.kind
      · have hl' : ((e.args.length : Int) != fldN e.kind) = false := by simpa using hl
        have HC := Lib.hid C
        clear C hf hl
        go_enter Tryd.func49, Tryd.ntmps49
        go_wp2_with fail
        refine HC.out.mono ?_
        rintro x w1 ⟨rfl, hb⟩
        have k4 := (hb.cell (p := ⟨w.heap.size, 4, none⟩) (by simp)).trans HK.out
        have HB := Lib.hid (after (HA.out w _) hb)
        clear hb
        go_wp2_with fail
        go_ret
        exact ⟨rfl, HB.out⟩
      · have hl' : ((e.args.length : Int) != fldN e.kind) = true := by simpa using hl
        have HC := Lib.hid C
        clear C hf hl
        go_enter Tryd.func49, Tryd.ntmps49
        go_wp2_with fail
        refine HC.out.mono ?_
        rintro x w1 ⟨rfl, hb⟩
        have k4 := (hb.cell (p := ⟨w.heap.size, 4, none⟩) (by simp)).trans HK.out
        have HB := Lib.hid (after (HA.out w _) hb)
        clear hb
        go_wp2_with fail
        go_ret
        exact ⟨rfl, HB.out⟩
  | succ k ih =>
    intro e v w hk ho hE
    have IH := Lib.hid ih
    clear ih
    obtain ⟨A, c, rfl⟩ := hE.slice
    have hk0 : ¬ ((k : Int) + 1 < 1) := by omega
    have HE := Lib.hid hE
    clear hE
    have hE := HE.out.le
    have C := fields_calls e ho (.slice A e.args.length c) (w.alloc (.cells #[.int .i64 e.kind, .int .i64 e.op, .int .i64 e.num, .string (B e.name), .slice A e.args.length c] 24))
    have HC := Lib.hid C
    clear C
    have k4 := newCell w #[.int .i64 e.kind, .int .i64 e.op, .int .i64 e.num, .string (B e.name), .slice A e.args.length c] 24 4 _ rfl
    have HK := Lib.hid k4
    clear k4
    cases hf : fldB e with
    | false =>
      have C := HC.out
      rw [hf] at C
      have HC := Lib.hid C
      have HF := Lib.hid (show dep (k + 1) e = 0 by rw [dep, if_neg (by simp [fitB_fld, hf])])
      clear C hf
      go_enter Tryd.func49, Tryd.ntmps49
      go_wp2_with fail
      refine HC.out.mono ?_
      rintro x w1 ⟨rfl, hb⟩
      have HB := Lib.hid (after (HA.out w _) hb)
      clear hb
      go_wp2_with fail
      go_ret
      exact ⟨by rw [HF.out]; rfl, HB.out⟩
    | true =>
      have C := HC.out
      rw [hf] at C
      by_cases hl : (e.args.length : Int) = fldN e.kind
      · have HF := Lib.hid (show dep (k + 1) e = depOf (deps (dep k) e.args) by rw [dep, if_pos (by simp [fitB_fld, hf, hl])])
        rw [← hl] at C
        have HC := Lib.hid C
        clear C hf hl
        go_enter Tryd.func49, Tryd.ntmps49
        go_wp2_with fail
        refine HC.out.mono ?_
        rintro x w1 ⟨rfl, hb⟩
        have k4 := (hb.cell (p := ⟨w.heap.size, 4, none⟩) (by simp)).trans HK.out
        have HK := Lib.hid k4
        have hw1 : w.heap.size < w1.heap.size := by have := hb.size; simp at this; omega
        have HB := Lib.hid (after (HA.out w _) hb)
        clear hb
        go_wp2_with fail
        go_loopw [7, 8] (fun d i wr => ∃ (n dd : Nat), n ≤ e.args.length ∧ i = .int .i64 n ∧ d = .int .i64 dd ∧ deps (dep k) (e.args.take n) = some dd ∧ Below w1.heap.size w1 wr) (fun _ i _ => e.args.length - (intOf i).toNat)
        case atStart => exact ⟨0, 0, by omega, rfl, rfl, rfl, Below.refl _ _⟩
        case round =>
          obtain ⟨n, dd, hn, rfl, rfl, hd, hbw⟩ := hrel
          have HD := Lib.hid hd
          have HW1 := Lib.hid hbw
          have HW := Lib.hid (after HB.out hbw)
          have k4 := (hbw.cell (p := ⟨w.heap.size, 4, none⟩) hw1).trans HK.out
          clear hd hbw
          by_cases hlt : n < e.args.length
          · obtain ⟨b, o, v', hA, hbl, hoe, hc, hsub⟩ := (HE.out.at_).2 n hlt
            obtain ⟨c0, c1, c2, c3, c4⟩ := hc.keep (fun i => HW.out.cell (p := ⟨b, i, none⟩) hbl)
            obtain ⟨A', c', rfl⟩ := hsub.slice
            have HS := Lib.hid hsub
            have hz := HW.out.size
            subst hA
            clear hsub hc
            have hsn : deps (dep k) (e.args.take (n + 1)) = if dep k e.args[n] = 0 then none else some (max dd (dep k e.args[n])) := by
              rw [List.take_succ_eq_append_getElem hlt, deps_snoc, HD.out]
            have HSN := Lib.hid hsn
            clear hsn
            have h20 := dep_le k e.args[n]
            have hnone : dep k e.args[n] = 0 → deps (dep k) e.args = none := fun h => by
              have := deps_none_of_zero (r := e.args.drop (n + 1)) HD.out h
              rwa [← List.drop_eq_getElem_cons hlt, List.take_append_drop] at this
            have HN := Lib.hid hnone
            clear hnone
            generalize e.args[n] = x at *
            have hdd := deps_bound _ k (dep_le k) _ _ HD.out
            have hko : (k : Int) ≤ 20 := by omega
            by_cases h0 : dep k x = 0
            · have HDN := Lib.hid (show dep (k + 1) e = 0 by rw [HF.out, HN.out h0]; rfl)
              go_wp2_with fail
              refine (IH.out x _ _ (by omega) hoe (HS.out.keep (by omega) fun q i hq => HW.out.cell (p := ⟨q, i, none⟩) hq)).mono ?_
              rintro x' w2 ⟨rfl, hb⟩
              have HB2 := Lib.hid (after HW.out hb)
              clear hb
              rw [h0]
              go_wp2_with fail
              go_ret
              exact ⟨by rw [HDN.out]; rfl, HB2.out⟩
            · have h0' : (((dep k x : Nat) : Int) == 0) = false := by simpa using h0
              have HSN' := Lib.hid (show deps (dep k) (e.args.take (n + 1)) = some (max dd (dep k x)) by rw [HSN.out, if_neg h0])
              by_cases hgt : dd < dep k x
              · go_wp2_with fail
                refine (IH.out x _ _ (by omega) hoe (HS.out.keep (by omega) fun q i hq => HW.out.cell (p := ⟨q, i, none⟩) hq)).mono ?_
                rintro x' w2 ⟨rfl, hb⟩
                have HB2 := Lib.hid (after HW1.out hb)
                clear hb
                go_wp2_with fail
                go_roundw
                case rel => exact ⟨n + 1, max dd (dep k x), by omega, by go_num, int_eq (by omega), HSN'.out, HB2.out⟩
                case measure => simp [intOf]; omega
              · go_wp2_with fail
                refine (IH.out x _ _ (by omega) hoe (HS.out.keep (by omega) fun q i hq => HW.out.cell (p := ⟨q, i, none⟩) hq)).mono ?_
                rintro x' w2 ⟨rfl, hb⟩
                have HB2 := Lib.hid (after HW1.out hb)
                clear hb
                go_wp2_with fail
                go_roundw
                case rel => exact ⟨n + 1, max dd (dep k x), by omega, by go_num, int_eq (by omega), HSN'.out, HB2.out⟩
                case measure => simp [intOf]; omega
          · obtain rfl : n = e.args.length := by omega
            have hd := HD.out
            rw [List.take_length] at hd
            have h20 := deps_bound _ k (dep_le k) _ _ hd
            have hdf : dep (k + 1) e = dd + 1 := by rw [HF.out, hd]; rfl
            have HDF := Lib.hid hdf
            clear hd hdf
            go_wp2_with fail
            go_ret
            exact ⟨by rw [HDF.out]; rfl, HW.out⟩
      · have hl' : ((e.args.length : Int) != fldN e.kind) = true := by simpa using hl
        have HF := Lib.hid (show dep (k + 1) e = 0 by rw [dep, if_neg (by simp [fitB_fld, hl])])
        have HC := Lib.hid C
        clear C hf hl
        go_enter Tryd.func49, Tryd.ntmps49
        go_wp2_with fail
        refine HC.out.mono ?_
        rintro x w1 ⟨rfl, hb⟩
        have k4 := (hb.cell (p := ⟨w.heap.size, 4, none⟩) (by simp)).trans HK.out
        have HB := Lib.hid (after (HA.out w _) hb)
        clear hb
        go_wp2_with fail
        go_ret
        exact ⟨by rw [HF.out]; rfl, HB.out⟩

theorem refDepth_calls (e : Ex) (ho : OkE e) (v : Value) (w : World) (hE : EIn w w.heap.size e.args v) :
    Calls Tryd.prog 18 #[eV e v] w fun x w' => x = .returned (.int .i64 (dep 20 e : Nat)) ∧ Below w.heap.size w w' := by
  obtain ⟨A, c, rfl⟩ := hE.slice
  have HE := Lib.hid hE
  clear hE
  have hb2 : ∀ o1, Below w.heap.size w (w.alloc o1) := fun o1 => (Below.refl _ w).alloc (Nat.le_refl _) _
  go_enter Tryd.func18, Tryd.ntmps18
  go_wp2_with fail
  refine (refDepth1_calls 20 e _ _ (by omega) ho (HE.out.keep (by simp) fun q i hq => (hb2 _).cell (p := ⟨q, i, none⟩) hq)).mono ?_
  rintro x' w2 ⟨rfl, hb⟩
  have HB2 := Lib.hid (after (hb2 _) hb)
  clear hb
  go_wp2_with fail
  go_ret
  exact ⟨rfl, HB2.out⟩
theorem refExpr_calls (e : Ex) (ho : OkE e) (v : Value) (w : World) (hE : EIn w w.heap.size e.args v) :
    Calls Tryd.prog 16 #[eV e v] w fun x w' => x = .returned (.int .i64 (errI (exB e))) ∧ Below w.heap.size w w' := by
  obtain ⟨A, c, rfl⟩ := hE.slice
  have HE := Lib.hid hE
  clear hE
  have hb2 : ∀ o1, Below w.heap.size w (w.alloc o1) := fun o1 => (Below.refl _ w).alloc (Nat.le_refl _) _
  by_cases h : dep 20 e = 0
  · have F := Lib.hid (show errI (exB e) = 2 by simp [errI, exB, h])
    go_enter Tryd.func16, Tryd.ntmps16
    go_wp2_with fail
    refine (refDepth_calls e ho _ _ (HE.out.keep (by simp) fun q i hq => (hb2 _).cell (p := ⟨q, i, none⟩) hq)).mono ?_
    rintro x' w2 ⟨rfl, hb⟩
    have HB2 := Lib.hid (after (hb2 _) hb)
    clear hb
    rw [h]
    go_wp2_with fail
    go_ret
    exact ⟨by rw [F.out]; rfl, HB2.out⟩
  · have F := Lib.hid (show errI (exB e) = 0 by simp [errI, exB, h])
    have h' : (((dep 20 e : Nat) : Int) == 0) = false := by simpa using h
    clear h
    go_enter Tryd.func16, Tryd.ntmps16
    go_wp2_with fail
    refine (refDepth_calls e ho _ _ (HE.out.keep (by simp) fun q i hq => (hb2 _).cell (p := ⟨q, i, none⟩) hq)).mono ?_
    rintro x' w2 ⟨rfl, hb⟩
    have HB2 := Lib.hid (after (hb2 _) hb)
    clear hb
    go_wp2_with fail
    go_ret
    exact ⟨by rw [F.out]; rfl, HB2.out⟩
end Go.Proofs.YtodicpnojcaanaaDoor
