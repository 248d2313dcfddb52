/-
  The reference's depth, Depth, Expr: contracts.
  The reference's exprs, SameExpr: contracts.
-/
import Derived.Test.YthiilnhiihfknaaDoorSDepth
import Derived.Test.YthiilnhiihfknaaDoorSEq
import Derived.Lib.QuietBelow
import Derived.BigQuiet
namespace Go.Proofs.YthiilnhiihfknaaDoor
open Go Go.RowKit

set_option maxHeartbeats 2000000 in
theorem refDepth1_calls (k : Nat) : ∀ (e : Ex) (v : Value) (w : World), k ≤ 20 → OkE e → EIn w w.heap.size e.args v →
    Calls Tryd.prog 49 #[eV e v, .int .i64 (k : Int)] w fun x w' => x = .returned (.int .i64 (dep k e : Nat)) ∧ Below w.heap.size w w' := by
  have ha : ∀ (w : World) (o : Obj), Below w.heap.size w (w.alloc o) := fun w o => (Below.refl _ w).alloc (Nat.le_refl _) _
  have HA := Lib.hid ha
  clear ha
  induction k with
  | zero =>
    intro e v w _ ho hE
    obtain ⟨A, c, rfl⟩ := hE.slice
    have hle := hE.le
    have C := fields_calls e ho (.slice A e.args.length c) (w.alloc (.cells #[.int .i64 e.kind, .int .i64 e.op, .int .i64 e.num, .string (B e.name), .slice A e.args.length c] 24))
    have HC := Lib.hid C
    clear C hE
    have k4 := newCell w #[.int .i64 e.kind, .int .i64 e.op, .int .i64 e.num, .string (B e.name), .slice A e.args.length c] 24 4 _ rfl
    have HK := Lib.hid k4
    clear k4
    cases hf : fldB e with
    | false =>
      have C := HC.out
      rw [hf] at C
      have HC := Lib.hid C
      clear C hf
      go_enter Tryd.func49, Tryd.ntmps49
      go_wp2_with fail
      refine HC.out.mono ?_
      rintro x w1 ⟨rfl, hb⟩
      have HB := Lib.hid (after (HA.out w _) hb)
      clear hb
      go_wp2_with fail
      go_ret
      exact ⟨rfl, HB.out⟩
    | true =>
      have C := HC.out
      rw [hf] at C
      by_cases hl : (e.args.length : Int) = fldN e.kind
      · have hl' : ((e.args.length : Int) != fldN e.kind) = false := by simpa using hl
        have HC := Lib.hid C
        clear C hf hl
        go_enter Tryd.func49, Tryd.ntmps49
        go_wp2_with fail
        refine HC.out.mono ?_
        rintro x w1 ⟨rfl, hb⟩
        have k4 := (hb.cell (p := ⟨w.heap.size, 4, none⟩) (by simp)).trans HK.out
        have HB := Lib.hid (after (HA.out w _) hb)
        clear hb
        go_wp2_with fail
        go_ret
        exact ⟨rfl, HB.out⟩
      · have hl' : ((e.args.length : Int) != fldN e.kind) = true := by simpa using hl
        have HC := Lib.hid C
        clear C hf hl
        go_enter Tryd.func49, Tryd.ntmps49
        go_wp2_with fail
        refine HC.out.mono ?_
        rintro x w1 ⟨rfl, hb⟩
        have k4 := (hb.cell (p := ⟨w.heap.size, 4, none⟩) (by simp)).trans HK.out
        have HB := Lib.hid (after (HA.out w _) hb)
        clear hb
        go_wp2_with fail
        go_ret
        exact ⟨rfl, HB.out⟩
  | succ k ih =>
    intro e v w hk ho hE
    have IH := Lib.hid ih
    clear ih
    obtain ⟨A, c, rfl⟩ := hE.slice
    have hk0 : ¬ ((k : Int) + 1 < 1) := by omega
    have HE := Lib.hid hE
    clear hE
    have hE := HE.out.le
    have C := fields_calls e ho (.slice A e.args.length c) (w.alloc (.cells #[.int .i64 e.kind, .int .i64 e.op, .int .i64 e.num, .string (B e.name), .slice A e.args.length c] 24))
    have HC := Lib.hid C
    clear C
    have k4 := newCell w #[.int .i64 e.kind, .int .i64 e.op, .int .i64 e.num, .string (B e.name), .slice A e.args.length c] 24 4 _ rfl
    have HK := Lib.hid k4
    clear k4
    cases hf : fldB e with
    | false =>
      have C := HC.out
      rw [hf] at C
      have HC := Lib.hid C
      have HF := Lib.hid (show dep (k + 1) e = 0 by rw [dep, if_neg (by simp [fitB_fld, hf])])
      clear C hf
      go_enter Tryd.func49, Tryd.ntmps49
      go_wp2_with fail
      refine HC.out.mono ?_
      rintro x w1 ⟨rfl, hb⟩
      have HB := Lib.hid (after (HA.out w _) hb)
      clear hb
      go_wp2_with fail
      go_ret
      exact ⟨by rw [HF.out]; rfl, HB.out⟩
    | true =>
      have C := HC.out
      rw [hf] at C
      by_cases hl : (e.args.length : Int) = fldN e.kind
      · have HF := Lib.hid (show dep (k + 1) e = depOf (deps (dep k) e.args) by rw [dep, if_pos (by simp [fitB_fld, hf, hl])])
        rw [← hl] at C
        have HC := Lib.hid C
        clear C hf hl
        go_enter Tryd.func49, Tryd.ntmps49
        go_wp2_with fail
        refine HC.out.mono ?_
        rintro x w1 ⟨rfl, hb⟩
        have k4 := (hb.cell (p := ⟨w.heap.size, 4, none⟩) (by simp)).trans HK.out
        have HK := Lib.hid k4
        have hw1 : w.heap.size < w1.heap.size := by have := hb.size; simp at this; omega
        have HB := Lib.hid (after (HA.out w _) hb)
        clear hb
        go_wp2_with fail
        go_loopw [7, 8] (fun d i wr => ∃ (n dd : Nat), n ≤ e.args.length ∧ i = .int .i64 n ∧ d = .int .i64 dd ∧ deps (dep k) (e.args.take n) = some dd ∧ Below w1.heap.size w1 wr) (fun _ i _ => e.args.length - (intOf i).toNat)
        case atStart => exact ⟨0, 0, by omega, rfl, rfl, rfl, Below.refl _ _⟩
        case round =>
          obtain ⟨n, dd, hn, rfl, rfl, hd, hbw⟩ := hrel
          have HD := Lib.hid hd
          have HW1 := Lib.hid hbw
          have HW := Lib.hid (after HB.out hbw)
          have k4 := (hbw.cell (p := ⟨w.heap.size, 4, none⟩) hw1).trans HK.out
          clear hd hbw
          by_cases hlt : n < e.args.length
          · obtain ⟨b, o, v', hA, hbl, hoe, hc, hsub⟩ := (HE.out.at_).2 n hlt
            obtain ⟨c0, c1, c2, c3, c4⟩ := hc.keep (fun i => HW.out.cell (p := ⟨b, i, none⟩) hbl)
            obtain ⟨A', c', rfl⟩ := hsub.slice
            have HS := Lib.hid hsub
            have hz := HW.out.size
            subst hA
            clear hsub hc
            have hsn : deps (dep k) (e.args.take (n + 1)) = if dep k e.args[n] = 0 then none else some (max dd (dep k e.args[n])) := by
              rw [List.take_succ_eq_append_getElem hlt, deps_snoc, HD.out]
            have HSN := Lib.hid hsn
            clear hsn
            have h20 := dep_le k e.args[n]
            have hnone : dep k e.args[n] = 0 → deps (dep k) e.args = none := fun h => by
              have := deps_none_of_zero (r := e.args.drop (n + 1)) HD.out h
              rwa [← List.drop_eq_getElem_cons hlt, List.take_append_drop] at this
            have HN := Lib.hid hnone
            clear hnone
            generalize e.args[n] = x at *
            have hdd := deps_bound _ k (dep_le k) _ _ HD.out
            have hko : (k : Int) ≤ 20 := by omega
            by_cases h0 : dep k x = 0
            · have HDN := Lib.hid (show dep (k + 1) e = 0 by rw [HF.out, HN.out h0]; rfl)
              go_wp2_with fail
              refine (IH.out x _ _ (by omega) hoe (HS.out.keep (by omega) fun q i hq => HW.out.cell (p := ⟨q, i, none⟩) hq)).mono ?_
              rintro x' w2 ⟨rfl, hb⟩
              have HB2 := Lib.hid (after HW.out hb)
              clear hb
              rw [h0]
              go_wp2_with fail
              go_ret
              exact ⟨by rw [HDN.out]; rfl, HB2.out⟩
            · have h0' : (((dep k x : Nat) : Int) == 0) = false := by simpa using h0
              have HSN' := Lib.hid (show deps (dep k) (e.args.take (n + 1)) = some (max dd (dep k x)) by rw [HSN.out, if_neg h0])
              by_cases hgt : dd < dep k x
              · go_wp2_with fail
                refine (IH.out x _ _ (by omega) hoe (HS.out.keep (by omega) fun q i hq => HW.out.cell (p := ⟨q, i, none⟩) hq)).mono ?_
                rintro x' w2 ⟨rfl, hb⟩
                have HB2 := Lib.hid (after HW1.out hb)
                clear hb
                go_wp2_with fail
                go_roundw
                case rel => exact ⟨n + 1, max dd (dep k x), by omega, by go_num, int_eq (by omega), HSN'.out, HB2.out⟩
                case measure => simp [intOf]; omega
              · go_wp2_with fail
                refine (IH.out x _ _ (by omega) hoe (HS.out.keep (by omega) fun q i hq => HW.out.cell (p := ⟨q, i, none⟩) hq)).mono ?_
                rintro x' w2 ⟨rfl, hb⟩
                have HB2 := Lib.hid (after HW1.out hb)
                clear hb
                go_wp2_with fail
                go_roundw
                case rel => exact ⟨n + 1, max dd (dep k x), by omega, by go_num, int_eq (by omega), HSN'.out, HB2.out⟩
                case measure => simp [intOf]; omega
          · obtain rfl : n = e.args.length := by omega
            have hd := HD.out
            rw [List.take_length] at hd
            have h20 := deps_bound _ k (dep_le k) _ _ hd
            have hdf : dep (k + 1) e = dd + 1 := by rw [HF.out, hd]; rfl
            have HDF := Lib.hid hdf
            clear hd hdf
            go_wp2_with fail
            go_ret
            exact ⟨by rw [HDF.out]; rfl, HW.out⟩
      · have hl' : ((e.args.length : Int) != fldN e.kind) = true := by simpa using hl
        have HF := Lib.hid (show dep (k + 1) e = 0 by rw [dep, if_neg (by simp [fitB_fld, hl])])
        have HC := Lib.hid C
        clear C hf hl
        go_enter Tryd.func49, Tryd.ntmps49
        go_wp2_with fail
        refine HC.out.mono ?_
        rintro x w1 ⟨rfl, hb⟩
        have k4 := (hb.cell (p := ⟨w.heap.size, 4, none⟩) (by simp)).trans HK.out
        have HB := Lib.hid (after (HA.out w _) hb)
        clear hb
        go_wp2_with fail
        go_ret
        exact ⟨by rw [HF.out]; rfl, HB.out⟩

theorem refDepth_calls (e : Ex) (ho : OkE e) (v : Value) (w : World) (hE : EIn w w.heap.size e.args v) :
    Calls Tryd.prog 18 #[eV e v] w fun x w' => x = .returned (.int .i64 (dep 20 e : Nat)) ∧ Below w.heap.size w w' := by
  obtain ⟨A, c, rfl⟩ := hE.slice
  have HE := Lib.hid hE
  clear hE
  have hb2 : ∀ o1, Below w.heap.size w (w.alloc o1) := fun o1 => (Below.refl _ w).alloc (Nat.le_refl _) _
  go_enter Tryd.func18, Tryd.ntmps18
  go_wp2_with fail
  refine (refDepth1_calls 20 e _ _ (by omega) ho (HE.out.keep (by simp) fun q i hq => (hb2 _).cell (p := ⟨q, i, none⟩) hq)).mono ?_
  rintro x' w2 ⟨rfl, hb⟩
  have HB2 := Lib.hid (after (hb2 _) hb)
  clear hb
  go_wp2_with fail
  go_ret
  exact ⟨rfl, HB2.out⟩
theorem refExpr_calls (e : Ex) (ho : OkE e) (v : Value) (w : World) (hE : EIn w w.heap.size e.args v) :
    Calls Tryd.prog 16 #[eV e v] w fun x w' => x = .returned (.int .i64 (errI (exB e))) ∧ Below w.heap.size w w' := by
  obtain ⟨A, c, rfl⟩ := hE.slice
  have HE := Lib.hid hE
  clear hE
  have hb2 : ∀ o1, Below w.heap.size w (w.alloc o1) := fun o1 => (Below.refl _ w).alloc (Nat.le_refl _) _
  by_cases h : dep 20 e = 0
  · have F := Lib.hid (show errI (exB e) = 2 by simp [errI, exB, h])
    go_enter Tryd.func16, Tryd.ntmps16
    go_wp2_with fail
    refine (refDepth_calls e ho _ _ (HE.out.keep (by simp) fun q i hq => (hb2 _).cell (p := ⟨q, i, none⟩) hq)).mono ?_
    rintro x' w2 ⟨rfl, hb⟩
    have HB2 := Lib.hid (after (hb2 _) hb)
    clear hb
    rw [h]
    go_wp2_with fail
    go_ret
    exact ⟨by rw [F.out]; rfl, HB2.out⟩
  · have F := Lib.hid (show errI (exB e) = 0 by simp [errI, exB, h])
    have h' : (((dep 20 e : Nat) : Int) == 0) = false := by simpa using h
    clear h
    go_enter Tryd.func16, Tryd.ntmps16
    go_wp2_with fail
    refine (refDepth_calls e ho _ _ (HE.out.keep (by simp) fun q i hq => (hb2 _).cell (p := ⟨q, i, none⟩) hq)).mono ?_
    rintro x' w2 ⟨rfl, hb⟩
    have HB2 := Lib.hid (after (hb2 _) hb)
    clear hb
    go_wp2_with fail
    go_ret
    exact ⟨by rw [F.out]; rfl, HB2.out⟩
end Go.Proofs.YthiilnhiihfknaaDoor

namespace Go.Proofs.YthiilnhiihfknaaDoor
open Go Go.RowKit Go.Sort

theorem eqE_not {a b : Ex} (h : a ≠ b) : eqE a b = false := by simpa [eqE] using h
theorem eqEs_refl (l : List Ex) : eqEs l l = true := by simp [eqEs]
theorem eqE_mk {a b : Ex} (h0 : a.kind = b.kind) (h1 : a.op = b.op) (h2 : a.num = b.num) (h3 : a.name = b.name) (h4 : eqEs a.args b.args = true) : eqE a b = true := by
  obtain ⟨_, _, _, _, _⟩ := a
  obtain ⟨_, _, _, _, _⟩ := b
  simp [eqEs] at h4
  simp only at h0 h1 h2 h3
  simp [eqE, h0, h1, h2, h3, h4]
theorem EIn.one {w : World} {M b c : Nat} {e : Ex} {v : Value} (hb : b < M) (ho : OkE e) (h : EBox w b e v) (hs : EIn w M e.args v) : EIn w M [e] (.slice (some ⟨b, 0, none⟩) 1 c) := by
  obtain ⟨c0, c1, c2, c3, c4⟩ := h
  refine .mk [e] (some ⟨b, 0, none⟩) c (fun _ => v) (by simp) (fun i x hx => ?_) (fun i x hx => ?_)
  · cases i with
    | zero => simp at hx; subst hx; exact ⟨b, 0, rfl, hb, ho, ⟨c0, c1, c2, c3, c4⟩⟩
    | succ i => simp at hx
  · cases i with
    | zero => simp at hx; subst hx; exact hs
    | succ i => simp at hx

set_option maxHeartbeats 20000000 in
theorem refExprs_all (m : Nat) : ∀ la : List Ex, SizeOf.sizeOf la < m → ∀ (lb : List Ex) (va vb : Value) (w : World), EIn w w.heap.size la va → EIn w w.heap.size lb vb →
    Calls Tryd.prog 51 #[va, vb] w fun r w' => r = .returned (.bool (eqEs la lb)) ∧ Below w.heap.size w w' := by
  induction m with
  | zero => intro la h; omega
  | succ m ih =>
    intro la hm lb va vb w hA hB
    obtain ⟨A1, c1, rfl⟩ := hA.slice
    obtain ⟨A2, c2, rfl⟩ := hB.slice
    have l1 := hA.le
    have l2 := hB.le
    have HA := Lib.hid hA
    have HB := Lib.hid hB
    have IH := Lib.hid ih
    have HM := Lib.hid hm
    clear hA hB ih hm
    by_cases hl : la.length = lb.length
    · have hl' : ((la.length : Int) != (lb.length : Int)) = false := by simp [hl]
      have HL := Lib.hid hl
      have hle : la.length ≤ lb.length := by omega
      clear hl
      go_enter Tryd.func51, Tryd.ntmps51
      go_wp2_with fail
      go_loopw [5] (fun i wr => ∃ n : Nat, n ≤ la.length ∧ i = .int .i64 n ∧ la.take n = lb.take n ∧ Below w.heap.size w wr) (fun i _ => la.length - (intOf i).toNat)
      case atStart => exact ⟨0, by omega, rfl, by simp, Below.refl _ _⟩
      case round =>
        obtain ⟨n, hn, rfl, ht, hbw⟩ := hrel
        have HT := Lib.hid ht
        have HW := Lib.hid hbw
        clear ht hbw
        by_cases hlt : n < la.length
        · have hlt2 : n < lb.length := by omega
          obtain ⟨b, o, v', hA, hbl, hoe, hc, hsub⟩ := (HA.out.at_).2 n hlt
          obtain ⟨a0, a1, a2, a3, a4⟩ := hc.keep (fun i => HW.out.cell (p := ⟨b, i, none⟩) hbl)
          obtain ⟨A', c', rfl⟩ := hsub.slice
          have HS := Lib.hid hsub
          subst hA
          clear hsub hc
          obtain ⟨b2, o2, v2, hA2, hbl2, hoe2, hc2, hsub2⟩ := (HB.out.at_).2 n hlt2
          obtain ⟨b0, b1, b2', b3, b4⟩ := hc2.keep (fun i => HW.out.cell (p := ⟨b2, i, none⟩) hbl2)
          obtain ⟨A3, c3, rfl⟩ := hsub2.slice
          have HS2 := Lib.hid hsub2
          subst hA2
          clear hsub2 hc2
          have hz := HW.out.size
          have hC := IH.out la[n].args (by have h1 := HM.out; have h2 := List.sizeOf_lt_of_mem (List.getElem_mem hlt); have h3 : SizeOf.sizeOf la[n].args < SizeOf.sizeOf la[n] := by { cases la[n]; simp; omega }; omega) lb[n].args
          have HY := Lib.hid (fun h : eqE la[n] lb[n] = true => take_eq_snoc HT.out hlt hlt2 (eqE_yes h))
          have HN := Lib.hid (fun h : eqE la[n] lb[n] = false => eqEs_no hlt hlt2 h)
          generalize la[n] = x at *
          generalize lb[n] = y at *
          have HC := Lib.hid hC
          clear hC
          have qa0 := fun d os => cell_regrown a0 d os
          have qa1 := fun d os => cell_regrown a1 d os
          have qa2 := fun d os => cell_regrown a2 d os
          have qa3 := fun d os => cell_regrown a3 d os
          have qa4 := fun d os => cell_regrown a4 d os
          have qb0 := fun d os => cell_regrown b0 d os
          have qb1 := fun d os => cell_regrown b1 d os
          have qb2 := fun d os => cell_regrown b2' d os
          have qb3 := fun d os => cell_regrown b3 d os
          have qb4 := fun d os => cell_regrown b4 d os
          clear a0 a1 a2 a3 a4 b0 b1 b2' b3 b4
          by_cases h0 : x.kind = y.kind
          · have g0 : (x.kind != y.kind) = false := by simpa using h0
            by_cases h1 : x.op = y.op
            · have g1 : (x.op != y.op) = false := by simpa using h1
              by_cases h2 : x.num = y.num
              · have g2 : (x.num != y.num) = false := by simpa using h2
                by_cases h3 : x.name = y.name
                · have g3 : (x.name != y.name) = false := by simpa using h3
                  have g3b : (x.name == y.name) = true := by simpa using h3
                  cases he : eqEs x.args y.args with
                  | true =>
                    have HE := Lib.hid he
                    clear he
                    have hxy : eqE x y = true := eqE_mk h0 h1 h2 h3 HE.out
                    have HXY := Lib.hid hxy
                    clear hxy h0 h1 h2 h3
                    have cR := fun d os => Calls.regrown_of (d := d) (os := os) (HC.out _ _ (grow (redrawn wr d) os) ((HS.out.keep hz fun q i hq => HW.out.cell (p := ⟨q, i, none⟩) hq).up (below_regrown wr d os)) ((HS2.out.keep hz fun q i hq => HW.out.cell (p := ⟨q, i, none⟩) hq).up (below_regrown wr d os)))
                    simp only [HE.out] at cR
                    go_wp2_with fail
                    refine wp_region_quiet_below (by kernel_rfl) (by kernel_rfl) ?_
                    repeat (first | go_big_quiet_step (exact cR _ _) | quiet_step (exact cR _ _))
                    refine wpQuiet_nil ?_
                    intro _ hw'
                    obtain ⟨⟨dq, osq⟩, hw''⟩ := hw'
                    subst hw''
                    have HB2 := Lib.hid (after HW.out (below_regrown wr dq osq))
                    go_wp2_with fail
                    go_roundw
                    case rel => exact ⟨n + 1, by omega, by go_num, HY.out HXY.out, HB2.out⟩
                    case measure => simp [intOf]; omega
                  | false =>
                    have HE := Lib.hid he
                    clear he
                    have HXY := Lib.hid (show eqE x y = false from eqE_not fun h => by rw [h, eqEs_refl] at HE; exact Bool.noConfusion HE.out)
                    clear h0 h1 h2 h3
                    have cR := fun d os => Calls.regrown_of (d := d) (os := os) (HC.out _ _ (grow (redrawn wr d) os) ((HS.out.keep hz fun q i hq => HW.out.cell (p := ⟨q, i, none⟩) hq).up (below_regrown wr d os)) ((HS2.out.keep hz fun q i hq => HW.out.cell (p := ⟨q, i, none⟩) hq).up (below_regrown wr d os)))
                    simp only [HE.out] at cR
                    go_wp2_with fail
                    refine wp_region_quiet_below (by kernel_rfl) (by kernel_rfl) ?_
                    repeat (first | go_big_quiet_step (exact cR _ _) | quiet_step (exact cR _ _))
                    refine wpQuiet_nil ?_
                    intro _ hw'
                    obtain ⟨⟨dq, osq⟩, hw''⟩ := hw'
                    subst hw''
                    have HB2 := Lib.hid (after HW.out (below_regrown wr dq osq))
                    go_wp2_with fail
                    go_ret
                    exact ⟨by rw [HN.out HXY.out]; rfl, HB2.out⟩
                · have g3 : (x.name != y.name) = true := by simpa using h3
                  have g3b : (x.name == y.name) = false := by simpa using h3
                  have HXY := Lib.hid (show eqE x y = false from eqE_not fun h => h3 (by rw [h]))
                  clear h0 h1 h2 h3
                  go_wp2_with fail
                  refine wp_region_quiet_below (by kernel_rfl) (by kernel_rfl) ?_
                  repeat (first | go_big_quiet_step (fail) | quiet_step (fail))
                  refine wpQuiet_nil ?_
                  intro _ hw'
                  obtain ⟨⟨dq, osq⟩, hw''⟩ := hw'
                  subst hw''
                  have HB2 := Lib.hid (after HW.out (below_regrown wr dq osq))
                  go_wp2_with fail
                  go_ret
                  exact ⟨by rw [HN.out HXY.out]; rfl, HB2.out⟩
              · have g2 : (x.num != y.num) = true := by simpa using h2
                have HXY := Lib.hid (show eqE x y = false from eqE_not fun h => h2 (by rw [h]))
                clear h0 h1 h2
                go_wp2_with fail
                refine wp_region_quiet_below (by kernel_rfl) (by kernel_rfl) ?_
                repeat (first | go_big_quiet_step (fail) | quiet_step (fail))
                refine wpQuiet_nil ?_
                intro _ hw'
                obtain ⟨⟨dq, osq⟩, hw''⟩ := hw'
                subst hw''
                have HB2 := Lib.hid (after HW.out (below_regrown wr dq osq))
                go_wp2_with fail
                go_ret
                exact ⟨by rw [HN.out HXY.out]; rfl, HB2.out⟩
            · have g1 : (x.op != y.op) = true := by simpa using h1
              have HXY := Lib.hid (show eqE x y = false from eqE_not fun h => h1 (by rw [h]))
              clear h0 h1
              go_wp2_with fail
              refine wp_region_quiet_below (by kernel_rfl) (by kernel_rfl) ?_
              repeat (first | go_big_quiet_step (fail) | quiet_step (fail))
              refine wpQuiet_nil ?_
              intro _ hw'
              obtain ⟨⟨dq, osq⟩, hw''⟩ := hw'
              subst hw''
              have HB2 := Lib.hid (after HW.out (below_regrown wr dq osq))
              go_wp2_with fail
              go_ret
              exact ⟨by rw [HN.out HXY.out]; rfl, HB2.out⟩
          · have g0 : (x.kind != y.kind) = true := by simpa using h0
            have HXY := Lib.hid (show eqE x y = false from eqE_not fun h => h0 (by rw [h]))
            clear h0
            go_wp2_with fail
            refine wp_region_quiet_below (by kernel_rfl) (by kernel_rfl) ?_
            repeat (first | go_big_quiet_step (fail) | quiet_step (fail))
            refine wpQuiet_nil ?_
            intro _ hw'
            obtain ⟨⟨dq, osq⟩, hw''⟩ := hw'
            subst hw''
            have HB2 := Lib.hid (after HW.out (below_regrown wr dq osq))
            go_wp2_with fail
            go_ret
            exact ⟨by rw [HN.out HXY.out]; rfl, HB2.out⟩
        · obtain rfl : n = la.length := by omega
          go_wp2_with fail
          go_ret
          exact ⟨by rw [eqEs_yes HL.out HT.out]; rfl, HW.out⟩
    · have hl' : ((la.length : Int) != (lb.length : Int)) = true := by simp; omega
      have HL := Lib.hid hl
      clear hl
      go_enter Tryd.func51, Tryd.ntmps51
      go_wp2_with fail
      go_ret
      exact ⟨by rw [eqEs_len HL.out]; rfl, Below.refl _ _⟩
theorem refExprs_calls (la lb : List Ex) (va vb : Value) (w : World) (hA : EIn w w.heap.size la va) (hB : EIn w w.heap.size lb vb) :
    Calls Tryd.prog 51 #[va, vb] w fun r w' => r = .returned (.bool (eqEs la lb)) ∧ Below w.heap.size w w' := refExprs_all _ la (Nat.lt_succ_self _) lb va vb w hA hB

set_option maxHeartbeats 2000000 in
theorem refSameExpr_calls (a b : Ex) (ha : OkE a) (hb : OkE b) (va vb : Value) (w : World) (hE1 : EIn w w.heap.size a.args va) (hE2 : EIn w w.heap.size b.args vb) :
    Calls Tryd.prog 20 #[eV a va, eV b vb] w fun r w' => r = .returned (.bool (sameE a b)) ∧ Below w.heap.size w w' := by
  obtain ⟨A1, c1, rfl⟩ := hE1.slice
  obtain ⟨A2, c2, rfl⟩ := hE2.slice
  have HE1 := Lib.hid hE1
  have HE2 := Lib.hid hE2
  have HX1 := Lib.hid ((EBox.new w a (.slice A1 a.args.length c1)).keep (bal _ (eO b (.slice A2 b.args.length c2))) (by simp))
  have HX2 := Lib.hid (EBox.new (w.alloc (eO a (.slice A1 a.args.length c1))) b (.slice A2 b.args.length c2))
  clear hE1 hE2
  cases h1 : exB a with
  | false =>
    have F := Lib.hid (show sameE a b = false by simp [sameE, h1])
    go_enter Tryd.func20, Tryd.ntmps20
    go_wp2_with fail
    refine (refExpr_calls a ha _ _ ((HE1.out.al _).al _)).mono ?_
    rintro x' w2 ⟨rfl, hb⟩
    have HB2 := Lib.hid (after (bal2 _ _ _) hb)
    clear hb
    rw [h1, errI_false]
    go_wp2_with fail
    go_ret
    exact ⟨by rw [F.out]; rfl, HB2.out⟩
  | true =>
    have H1 := Lib.hid h1
    clear h1
    have hs1 : w.heap.size + 1 < w.heap.size + 2 := by omega
    cases h2 : exB b with
    | false =>
      have F := Lib.hid (show sameE a b = false by simp [sameE, h2])
      have H2 := Lib.hid h2
      clear h2
      go_enter Tryd.func20, Tryd.ntmps20
      go_wp2_with fail
      refine (refExpr_calls a ha _ _ ((HE1.out.al _).al _)).mono ?_
      rintro x' w2 ⟨rfl, hb'⟩
      have HB2 := Lib.hid (after (bal2 _ _ _) hb')
      obtain ⟨d0, d1, d2, d3, d4⟩ := HX2.out.keep hb' (by simp)
      simp only [sz1] at d0 d1 d2 d3 d4
      clear hb'
      rw [H1.out, errI_true]
      go_wp2_with fail
      refine (refExpr_calls b hb _ _ (HE2.out.up HB2.out)).mono ?_
      rintro x' w3 ⟨rfl, hb'⟩
      have HB3 := Lib.hid (after HB2.out hb')
      clear hb'
      rw [H2.out, errI_false]
      go_wp2_with fail
      go_ret
      exact ⟨by rw [F.out]; rfl, HB3.out⟩
    | true =>
      have F := Lib.hid (show sameE a b = eqEs [a] [b] by simp [sameE, H1.out, h2, eqE, eqEs])
      have H2 := Lib.hid h2
      clear h2
      go_enter Tryd.func20, Tryd.ntmps20
      go_wp2_with fail
      refine (refExpr_calls a ha _ _ ((HE1.out.al _).al _)).mono ?_
      rintro x' w2 ⟨rfl, hb'⟩
      have HB2 := Lib.hid (after (bal2 _ _ _) hb')
      have HX1 := Lib.hid (HX1.out.keep hb' (by simp; omega))
      have X2 := HX2.out.keep hb' (by simp)
      have hz : w.heap.size + 2 ≤ w2.heap.size := by have := hb'.size; simpa using this
      simp only [sz1] at X2
      have HX2 := Lib.hid X2
      obtain ⟨d0, d1, d2, d3, d4⟩ := X2
      clear hb'
      rw [H1.out, errI_true]
      go_wp2_with fail
      refine (refExpr_calls b hb _ _ (HE2.out.up HB2.out)).mono ?_
      rintro x' w3 ⟨rfl, hb'⟩
      have HB3 := Lib.hid (after HB2.out hb')
      obtain ⟨e0, e1, e2, e3, e4⟩ := HX1.out.keep hb' (by omega)
      obtain ⟨f0, f1, f2, f3, f4⟩ := HX2.out.keep hb' (by omega)
      have hz3 : w.heap.size + 2 ≤ w3.heap.size := by have := hb'.size; omega
      have hz4 : w.heap.size + 1 < w3.heap.size := by omega
      clear hb' d0 d1 d2 d3 d4
      rw [H2.out, errI_true]
      go_wp2_with fail
      refine (refExprs_calls [a] [b] _ _ _ (EIn.one (v := .slice A1 a.args.length c1) ?_ ha ?_ ?_) (EIn.one (v := .slice A2 b.args.length c2) ?_ hb ?_ ?_)).mono ?_
      · simp; omega
      · exact (EBox.new w3 a _).keep (bal _ _) (by simp)
      · exact ((HE1.out.up HB3.out).al _).al _
      · simp
      · have := EBox.new (w3.alloc (eO a (.slice A1 a.args.length c1))) b (.slice A2 b.args.length c2)
        rwa [sz1] at this
      · exact ((HE2.out.up HB3.out).al _).al _
      rintro x' w4 ⟨rfl, hb'⟩
      have HB4 := Lib.hid (after (after HB3.out (bal2 _ _ _)) hb')
      clear hb'
      go_wp2_with fail
      go_ret
      exact ⟨by rw [F.out]; rfl, HB4.out⟩
end Go.Proofs.YthiilnhiihfknaaDoor
