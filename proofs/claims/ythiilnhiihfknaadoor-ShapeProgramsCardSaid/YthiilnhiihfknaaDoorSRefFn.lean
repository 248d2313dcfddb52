/-
  The reference's Func: contract. Written by gen3_reffn.py.
-/
import Derived.Test.YthiilnhiihfknaaDoorSSize
import Derived.Test.YthiilnhiihfknaaDoorSFn
namespace Go.Proofs.YthiilnhiihfknaaDoor
open Go Go.RowKit

theorem after1 {w a b : World} {o : Obj} (h : Below (w.heap.size + 1) (w.alloc o) a) (k : Below a.heap.size a b) : Below (w.heap.size + 1) (w.alloc o) b := h.trans (k.mono (by have := h.size; rw [sz1] at this; exact this))

set_option maxRecDepth 100000 in
set_option maxHeartbeats 8000000 in
theorem refFunc_calls (f : Fn) (ho : OkF f) (vp vb : Value) (w : World) (hP : PIn w w.heap.size f.params vp) (hB : SIn w w.heap.size f.body vb) :
    Calls Tryd.prog 55 #[fV f vp vb] w fun e w' => e = .returned (.bool (fnB f)) ∧ Below w.heap.size w w' := by
  obtain ⟨A1, c1, rfl⟩ := hP.slice
  obtain ⟨A2, c2, rfl⟩ := hB.slice
  have lp := hP.le
  have HP := Lib.hid hP
  have HB := Lib.hid hB
  have hnm := ho.name
  have HX := Lib.hid (FBox.new w f (.slice A1 f.params.length c1) (.slice A2 f.body.length c2))
  clear hP hB ho
  cases h1 : nameB f.name with
  | false =>
    have H1 := Lib.hid h1
    have HE := Lib.hid (show fnB f = false by simp [fnB, h1])
    clear h1
    go_enter Tryd.func55, Tryd.ntmps55
    go_wp2_with fail
    refine (refName_calls f.name hnm _).mono ?_
    rintro e w1 ⟨rfl, hb⟩
    have HQ := Lib.hid (after1 (Below.refl _ _) hb)
    have X1 := HX.out.keep HQ.out (by omega)
    obtain ⟨d0, d1, d2, d3, d4⟩ := X1
    clear hb
    rw [H1.out]
    go_wp2_with fail
    go_ret
    exact ⟨by rw [HE.out]; rfl, (bal w _).trans (HQ.out.mono (by omega))⟩
  | true =>
    have H1 := Lib.hid h1
    clear h1
    by_cases h8 : f.params.length ≤ 8
    · have h8' : ¬ (8 : Int) < (f.params.length : Int) := by omega
      have h8'' : decide (8 < f.params.length) = false := by simpa using h8
      by_cases h0 : f.result = 0
      · have e0 : (f.result != 0) = false := by simp [h0]
        cases h4 : rightL f.body with
        | false =>
          have HE := Lib.hid (show fnB f = false by simp [fnB, h4])
          have hzz : szI 20 f.body 200 < 0 := by have := szI_right f.body; rw [h4] at this; simpa using this
          clear h4
          clear h0
          go_enter Tryd.func55, Tryd.ntmps55
          go_wp2_with fail
          refine (refName_calls f.name hnm _).mono ?_
          rintro e w1 ⟨rfl, hb⟩
          have HQ := Lib.hid (after1 (Below.refl _ _) hb)
          have X1 := HX.out.keep HQ.out (by omega)
          obtain ⟨d0, d1, d2, d3, d4⟩ := X1
          clear hb
          rw [H1.out]
          go_wp2_with fail
          refine (size_top_calls f.body _ _ (HB.out.up ((bal w _).trans (HQ.out.mono (by omega))))).mono ?_
          rintro e w2 ⟨rfl, hb⟩
          have HQ := Lib.hid (after1 HQ.out hb)
          clear hb
          generalize szI 20 f.body 200 = z at *
          clear d0 d1 d2 d3 d4
          obtain ⟨d0, d1, d2, d3, d4⟩ := HX.out.keep HQ.out (by omega)
          go_wp2_with fail
          go_ret
          exact ⟨by rw [HE.out]; rfl, (bal w _).trans (HQ.out.mono (by omega))⟩
        | true =>
          have HE1 := Lib.hid (show fnB f = f.params.all paB by simp [fnB, pasB, H1.out, h8, h4, h0])
          have hzz : ¬ szI 20 f.body 200 < 0 := by have := szI_right f.body; rw [h4] at this; simpa using this
          clear h4
          clear h0
          go_enter Tryd.func55, Tryd.ntmps55
          go_wp2_with fail
          refine (refName_calls f.name hnm _).mono ?_
          rintro e w1 ⟨rfl, hb⟩
          have HQ := Lib.hid (after1 (Below.refl _ _) hb)
          have X1 := HX.out.keep HQ.out (by omega)
          obtain ⟨d0, d1, d2, d3, d4⟩ := X1
          clear hb
          rw [H1.out]
          go_wp2_with fail
          refine (size_top_calls f.body _ _ (HB.out.up ((bal w _).trans (HQ.out.mono (by omega))))).mono ?_
          rintro e w2 ⟨rfl, hb⟩
          have HQ := Lib.hid (after1 HQ.out hb)
          clear hb
          generalize szI 20 f.body 200 = z at *
          clear d0 d1 d2 d3 d4
          obtain ⟨d0, d1, d2, d3, d4⟩ := HX.out.keep HQ.out (by omega)
          go_wp2_with fail
          clear hzz
          go_loopw [3] (fun i wr => ∃ n : Nat, n ≤ f.params.length ∧ i = .int .i64 n ∧ (f.params.take n).all paB = true ∧ Below (w.heap.size + 1) (w.alloc (fO f (.slice A1 f.params.length c1) (.slice A2 f.body.length c2))) wr) (fun i _ => f.params.length - (intOf i).toNat)
          case atStart => exact ⟨0, by omega, rfl, rfl, HQ.out⟩
          case round =>
            obtain ⟨n, hn, rfl, ht, hbw⟩ := hrel
            have HT := Lib.hid ht
            have HR := Lib.hid hbw
            have HW := Lib.hid ((bal w _).trans (hbw.mono (Nat.le_succ _)))
            clear ht hbw
            clear d0 d1 d2 d3 d4
            obtain ⟨d0, d1, d2, d3, d4⟩ := HX.out.keep HR.out (by omega)
            by_cases hlt : n < f.params.length
            · obtain ⟨b, o, hA, hbl, hop, hc⟩ := HP.out.at_ n hlt
              have hc1 := hc.keep (fun i => HW.out.cell (p := ⟨b, i, none⟩) hbl)
              obtain ⟨a0, a1⟩ := hc1
              have hpm := hop.name
              subst hA
              have HC := Lib.hid hc
              clear hc hop
              have HY := Lib.hid (all_snoc (f := paB) hlt)
              have HN := Lib.hid (fun h : paB f.params[n] = false => all_no hlt h)
              generalize f.params[n] = x at *
              cases h1 : nameB x.name with
              | false =>
                have H5 := Lib.hid h1
                have HE := Lib.hid (show fnB f = false by rw [HE1.out]; exact HN.out (by simp [paB, h1]))
                clear h1
                go_wp2_with fail
                refine (refName_calls x.name hpm _).mono ?_
                rintro e w3 ⟨rfl, hb⟩
                have HQ := Lib.hid (after1 HR.out hb)
                clear hb
                rw [H5.out]
                go_wp2_with fail
                go_ret
                exact ⟨by rw [HE.out]; rfl, (bal w _).trans (HQ.out.mono (by omega))⟩
              | true =>
                have H5 := Lib.hid h1
                cases h2 : typB x.typ with
                | false =>
                  have H6 := Lib.hid h2
                  have HE := Lib.hid (show fnB f = false by rw [HE1.out]; exact HN.out (by simp [paB, h2]))
                  clear h1 h2
                  go_wp2_with fail
                  refine (refName_calls x.name hpm _).mono ?_
                  rintro e w3 ⟨rfl, hb⟩
                  have HQ := Lib.hid (after1 HR.out hb)
                  clear hb d0 d1 d2 d3 d4 a0 a1
                  obtain ⟨d0, d1, d2, d3, d4⟩ := HX.out.keep HQ.out (by omega)
                  obtain ⟨a0, a1⟩ := HC.out.keep (fun i => ((bal w _).trans (HQ.out.mono (Nat.le_succ _))).cell (p := ⟨b, i, none⟩) hbl)
                  rw [H5.out]
                  go_wp2_with fail
                  refine (typ_calls x.typ _).mono ?_
                  rintro e w9 ⟨rfl, rfl⟩
                  rw [H6.out]
                  go_wp2_with fail
                  go_ret
                  exact ⟨by rw [HE.out]; rfl, (bal w _).trans (HQ.out.mono (by omega))⟩
                | true =>
                  have H6 := Lib.hid h2
                  have HE := Lib.hid (show paB x = true by simp [paB, h1, h2])
                  clear h1 h2
                  go_wp2_with fail
                  refine (refName_calls x.name hpm _).mono ?_
                  rintro e w3 ⟨rfl, hb⟩
                  have HQ := Lib.hid (after1 HR.out hb)
                  clear hb d0 d1 d2 d3 d4 a0 a1
                  obtain ⟨d0, d1, d2, d3, d4⟩ := HX.out.keep HQ.out (by omega)
                  obtain ⟨a0, a1⟩ := HC.out.keep (fun i => ((bal w _).trans (HQ.out.mono (Nat.le_succ _))).cell (p := ⟨b, i, none⟩) hbl)
                  rw [H5.out]
                  go_wp2_with fail
                  refine (typ_calls x.typ _).mono ?_
                  rintro e w9 ⟨rfl, rfl⟩
                  rw [H6.out]
                  go_wp2_with fail
                  go_roundw
                  case rel => exact ⟨n + 1, by omega, by go_num, by rw [HY.out, HT.out, HE.out]; rfl, HQ.out⟩
                  case measure => simp [intOf]; omega
            · obtain rfl : n = f.params.length := by omega
              have ht := HT.out
              rw [List.take_length] at ht
              have HE := Lib.hid (show fnB f = true by rw [HE1.out, ht])
              clear ht
              go_wp2_with fail
              go_ret
              exact ⟨by rw [HE.out]; rfl, HW.out⟩
      · have e0 : (f.result != 0) = true := by simpa using h0
        cases h3 : typB f.result with
        | false =>
          have H3 := Lib.hid h3
          have HE := Lib.hid (show fnB f = false by simp [fnB, h0, h3])
          clear h0 h3
          go_enter Tryd.func55, Tryd.ntmps55
          go_wp2_with fail
          refine (refName_calls f.name hnm _).mono ?_
          rintro e w1 ⟨rfl, hb⟩
          have HQ := Lib.hid (after1 (Below.refl _ _) hb)
          have X1 := HX.out.keep HQ.out (by omega)
          obtain ⟨d0, d1, d2, d3, d4⟩ := X1
          clear hb
          rw [H1.out]
          go_wp2_with fail
          refine (typ_calls f.result _).mono ?_
          rintro e w9 ⟨rfl, rfl⟩
          rw [H3.out]
          go_wp2_with fail
          go_ret
          exact ⟨by rw [HE.out]; rfl, (bal w _).trans (HQ.out.mono (by omega))⟩
        | true =>
          have H3 := Lib.hid h3
          cases h4 : rightL f.body with
          | false =>
            have HE := Lib.hid (show fnB f = false by simp [fnB, h4])
            have hzz : szI 20 f.body 200 < 0 := by have := szI_right f.body; rw [h4] at this; simpa using this
            clear h4
            clear h0 h3
            go_enter Tryd.func55, Tryd.ntmps55
            go_wp2_with fail
            refine (refName_calls f.name hnm _).mono ?_
            rintro e w1 ⟨rfl, hb⟩
            have HQ := Lib.hid (after1 (Below.refl _ _) hb)
            have X1 := HX.out.keep HQ.out (by omega)
            obtain ⟨d0, d1, d2, d3, d4⟩ := X1
            clear hb
            rw [H1.out]
            go_wp2_with fail
            refine (typ_calls f.result _).mono ?_
            rintro e w9 ⟨rfl, rfl⟩
            rw [H3.out]
            go_wp2_with fail
            refine (size_top_calls f.body _ _ (HB.out.up ((bal w _).trans (HQ.out.mono (by omega))))).mono ?_
            rintro e w2 ⟨rfl, hb⟩
            have HQ := Lib.hid (after1 HQ.out hb)
            clear hb
            generalize szI 20 f.body 200 = z at *
            clear d0 d1 d2 d3 d4
            obtain ⟨d0, d1, d2, d3, d4⟩ := HX.out.keep HQ.out (by omega)
            go_wp2_with fail
            go_ret
            exact ⟨by rw [HE.out]; rfl, (bal w _).trans (HQ.out.mono (by omega))⟩
          | true =>
            have HE1 := Lib.hid (show fnB f = f.params.all paB by simp [fnB, pasB, H1.out, h8, h4, h0, h3])
            have hzz : ¬ szI 20 f.body 200 < 0 := by have := szI_right f.body; rw [h4] at this; simpa using this
            clear h4
            clear h0 h3
            go_enter Tryd.func55, Tryd.ntmps55
            go_wp2_with fail
            refine (refName_calls f.name hnm _).mono ?_
            rintro e w1 ⟨rfl, hb⟩
            have HQ := Lib.hid (after1 (Below.refl _ _) hb)
            have X1 := HX.out.keep HQ.out (by omega)
            obtain ⟨d0, d1, d2, d3, d4⟩ := X1
            clear hb
            rw [H1.out]
            go_wp2_with fail
            refine (typ_calls f.result _).mono ?_
            rintro e w9 ⟨rfl, rfl⟩
            rw [H3.out]
            go_wp2_with fail
            refine (size_top_calls f.body _ _ (HB.out.up ((bal w _).trans (HQ.out.mono (by omega))))).mono ?_
            rintro e w2 ⟨rfl, hb⟩
            have HQ := Lib.hid (after1 HQ.out hb)
            clear hb
            generalize szI 20 f.body 200 = z at *
            clear d0 d1 d2 d3 d4
            obtain ⟨d0, d1, d2, d3, d4⟩ := HX.out.keep HQ.out (by omega)
            go_wp2_with fail
            clear hzz
            go_loopw [3] (fun i wr => ∃ n : Nat, n ≤ f.params.length ∧ i = .int .i64 n ∧ (f.params.take n).all paB = true ∧ Below (w.heap.size + 1) (w.alloc (fO f (.slice A1 f.params.length c1) (.slice A2 f.body.length c2))) wr) (fun i _ => f.params.length - (intOf i).toNat)
            case atStart => exact ⟨0, by omega, rfl, rfl, HQ.out⟩
            case round =>
              obtain ⟨n, hn, rfl, ht, hbw⟩ := hrel
              have HT := Lib.hid ht
              have HR := Lib.hid hbw
              have HW := Lib.hid ((bal w _).trans (hbw.mono (Nat.le_succ _)))
              clear ht hbw
              clear d0 d1 d2 d3 d4
              obtain ⟨d0, d1, d2, d3, d4⟩ := HX.out.keep HR.out (by omega)
              by_cases hlt : n < f.params.length
              · obtain ⟨b, o, hA, hbl, hop, hc⟩ := HP.out.at_ n hlt
                have hc1 := hc.keep (fun i => HW.out.cell (p := ⟨b, i, none⟩) hbl)
                obtain ⟨a0, a1⟩ := hc1
                have hpm := hop.name
                subst hA
                have HC := Lib.hid hc
                clear hc hop
                have HY := Lib.hid (all_snoc (f := paB) hlt)
                have HN := Lib.hid (fun h : paB f.params[n] = false => all_no hlt h)
                generalize f.params[n] = x at *
                cases h1 : nameB x.name with
                | false =>
                  have H5 := Lib.hid h1
                  have HE := Lib.hid (show fnB f = false by rw [HE1.out]; exact HN.out (by simp [paB, h1]))
                  clear h1
                  go_wp2_with fail
                  refine (refName_calls x.name hpm _).mono ?_
                  rintro e w3 ⟨rfl, hb⟩
                  have HQ := Lib.hid (after1 HR.out hb)
                  clear hb
                  rw [H5.out]
                  go_wp2_with fail
                  go_ret
                  exact ⟨by rw [HE.out]; rfl, (bal w _).trans (HQ.out.mono (by omega))⟩
                | true =>
                  have H5 := Lib.hid h1
                  cases h2 : typB x.typ with
                  | false =>
                    have H6 := Lib.hid h2
                    have HE := Lib.hid (show fnB f = false by rw [HE1.out]; exact HN.out (by simp [paB, h2]))
                    clear h1 h2
                    go_wp2_with fail
                    refine (refName_calls x.name hpm _).mono ?_
                    rintro e w3 ⟨rfl, hb⟩
                    have HQ := Lib.hid (after1 HR.out hb)
                    clear hb d0 d1 d2 d3 d4 a0 a1
                    obtain ⟨d0, d1, d2, d3, d4⟩ := HX.out.keep HQ.out (by omega)
                    obtain ⟨a0, a1⟩ := HC.out.keep (fun i => ((bal w _).trans (HQ.out.mono (Nat.le_succ _))).cell (p := ⟨b, i, none⟩) hbl)
                    rw [H5.out]
                    go_wp2_with fail
                    refine (typ_calls x.typ _).mono ?_
                    rintro e w9 ⟨rfl, rfl⟩
                    rw [H6.out]
                    go_wp2_with fail
                    go_ret
                    exact ⟨by rw [HE.out]; rfl, (bal w _).trans (HQ.out.mono (by omega))⟩
                  | true =>
                    have H6 := Lib.hid h2
                    have HE := Lib.hid (show paB x = true by simp [paB, h1, h2])
                    clear h1 h2
                    go_wp2_with fail
                    refine (refName_calls x.name hpm _).mono ?_
                    rintro e w3 ⟨rfl, hb⟩
                    have HQ := Lib.hid (after1 HR.out hb)
                    clear hb d0 d1 d2 d3 d4 a0 a1
                    obtain ⟨d0, d1, d2, d3, d4⟩ := HX.out.keep HQ.out (by omega)
                    obtain ⟨a0, a1⟩ := HC.out.keep (fun i => ((bal w _).trans (HQ.out.mono (Nat.le_succ _))).cell (p := ⟨b, i, none⟩) hbl)
                    rw [H5.out]
                    go_wp2_with fail
                    refine (typ_calls x.typ _).mono ?_
                    rintro e w9 ⟨rfl, rfl⟩
                    rw [H6.out]
                    go_wp2_with fail
                    go_roundw
                    case rel => exact ⟨n + 1, by omega, by go_num, by rw [HY.out, HT.out, HE.out]; rfl, HQ.out⟩
                    case measure => simp [intOf]; omega
              · obtain rfl : n = f.params.length := by omega
                have ht := HT.out
                rw [List.take_length] at ht
                have HE := Lib.hid (show fnB f = true by rw [HE1.out, ht])
                clear ht
                go_wp2_with fail
                go_ret
                exact ⟨by rw [HE.out]; rfl, HW.out⟩
    · have h8' : (8 : Int) < (f.params.length : Int) := by omega
      have h8'' : decide (8 < f.params.length) = true := by simpa using h8
      have HE := Lib.hid (show fnB f = false by simp [fnB, pasB, h8])
      go_enter Tryd.func55, Tryd.ntmps55
      go_wp2_with fail
      refine (refName_calls f.name hnm _).mono ?_
      rintro e w1 ⟨rfl, hb⟩
      have HQ := Lib.hid (after1 (Below.refl _ _) hb)
      have X1 := HX.out.keep HQ.out (by omega)
      obtain ⟨d0, d1, d2, d3, d4⟩ := X1
      clear hb
      rw [H1.out]
      go_wp2_with fail
      go_ret
      exact ⟨by rw [HE.out]; rfl, (bal w _).trans (HQ.out.mono (by omega))⟩
end Go.Proofs.YthiilnhiihfknaaDoor
