/-
  The reference's head, class D of kinds. Written by gen3_rhead.py.
  The reference's head, class E of kinds. Written by gen3_rhead.py.
  The reference's head, class F of kinds. Written by gen3_rhead.py.
-/
import Derived.Test.YthiilnhiihfknaaDoorSRow
namespace Go.Proofs.YthiilnhiihfknaaDoor
open Go Go.RowKit

set_option maxRecDepth 100000 in
set_option maxHeartbeats 20000000 in
theorem refHead_D (f m : Nat) (hrow : RowC 7 false f m) (no : Int) (name : Bytes) (typ : Int) (callee : Bytes) (args : List Ex) (body els : List St) (lname : name.length ≤ 9223372036854775807) (lcallee : callee.length ≤ 9223372036854775807)
    (va vb ve : Value) (w : World) (hA : EIn w w.heap.size args va) (hB : SIn w w.heap.size body vb) (hE : SIn w w.heap.size els ve) :
    Calls Tryd.prog 100 #[.agg #[.int .i64 7, .int .i64 no, .string (B name), .int .i64 typ, .string (B callee), va, vb, ve]] w fun e w' => e = .returned (.bool (rowHead ⟨1, 2, false, f, m, false, false⟩ ⟨7, no, name, typ, callee, args, body, els⟩)) ∧ Below w.heap.size w w' := by
  obtain ⟨Aa, ca, rfl⟩ := hA.slice
  obtain ⟨Ab, cb, rfl⟩ := hB.slice
  obtain ⟨Ae, ce, rfl⟩ := hE.slice
  have l1 := hA.le
  have l2 := hB.le
  have l3 := hE.le
  have HA := Lib.hid hA
  have HR := Lib.hid hrow
  clear hA hB hE hrow
  by_cases hf : f ≤ args.length
  · by_cases hm : args.length ≤ m
    · have hf' : ¬ (args.length : Int) < (f : Int) := by omega
      have hm' : ¬ (m : Int) < (args.length : Int) := by omega
      have hf'' : decide (args.length < f) = false := by simpa using hf
      have hm'' : decide (m < args.length) = false := by simpa using hm
      have HX := Lib.hid (SBox.new w ⟨7, no, name, typ, callee, args, body, els⟩ (.slice Aa args.length ca) (.slice Ab body.length cb) (.slice Ae els.length ce))
      go_enter Tryd.func100, Tryd.ntmps100
      go_wp2_with fail
      refine (HR.out _).mono ?_
      rintro e w1 ⟨rfl, rfl⟩
      go_wp2_with fail
      go_loopw [7] (fun i wr => ∃ n : Nat, n ≤ args.length ∧ i = .int .i64 n ∧ exsB (args.take n) = true ∧ Below (w.heap.size + 1) (w.alloc (sO ⟨7, no, name, typ, callee, args, body, els⟩ (.slice Aa args.length ca) (.slice Ab body.length cb) (.slice Ae els.length ce))) wr) (fun i _ => args.length - (intOf i).toNat)
      case atStart => exact ⟨0, by omega, rfl, rfl, by have := Below.refl (w.heap.size + 1) (w.alloc (sO ⟨7, no, name, typ, callee, args, body, els⟩ (.slice Aa args.length ca) (.slice Ab body.length cb) (.slice Ae els.length ce))); exact this⟩
      case round =>
        obtain ⟨n, hn, rfl, ht, hbw⟩ := hrel
        have HT := Lib.hid ht
        have HXR := Lib.hid (HX.out.keep hbw (by omega))
        have hzr : w.heap.size < wr.heap.size := by have := hbw.size; simp at this; omega
        have HB := Lib.hid (after (bal w _) (by rw [sz1]; exact hbw))
        have HBR := Lib.hid hbw
        clear ht hbw
        by_cases hlt : n < args.length
        · obtain ⟨b, o, v', hA, hbl, hoe, hc, hsub⟩ := (HA.out.at_).2 n hlt
          obtain ⟨a0, a1, a2, a3, a4⟩ := hc.keep (fun i => HB.out.cell (p := ⟨b, i, none⟩) hbl)
          obtain ⟨A', c', rfl⟩ := hsub.slice
          have HS := Lib.hid hsub
          subst hA
          clear hsub hc
          obtain ⟨q0, _, q2, q3, q4, q5, q6, q7⟩ := HXR.out
          simp only at q0 q2 q3 q4 q5 q6 q7
          have HY := Lib.hid (exsB_snoc hlt)
          have HN := Lib.hid (fun h : exB args[n] = false => exsB_no hlt h)
          generalize args[n] = x at *
          cases h0 : exB x with
          | false =>
            have HE := Lib.hid h0
            clear h0
            have F := Lib.hid (show rowHead ⟨1, 2, false, f, m, false, false⟩ ⟨7, no, name, typ, callee, args, body, els⟩ = false by simp [rowHead, HN.out HE.out])
            go_wp2_with fail
            refine (refExpr_calls x hoe _ _ (HS.out.up HB.out)).mono ?_
            rintro x' w2 ⟨rfl, hb⟩
            have HB2 := Lib.hid (after HB.out hb)
            clear hb
            rw [HE.out, errI_false]
            go_wp2_with fail
            go_ret
            exact ⟨by rw [F.out]; rfl, HB2.out⟩
          | true =>
            have HE := Lib.hid h0
            clear h0
            go_wp2_with fail
            refine (refExpr_calls x hoe _ _ (HS.out.up HB.out)).mono ?_
            rintro x' w2 ⟨rfl, hb⟩
            have HR2 := Lib.hid ((HBR.out).trans (hb.mono (by omega)))
            clear hb
            rw [HE.out, errI_true]
            go_wp2_with fail
            go_roundw
            case rel => exact ⟨n + 1, by omega, by go_num, by rw [HY.out, HT.out, HE.out]; rfl, HR2.out⟩
            case measure => simp [intOf]; omega
        · obtain rfl : n = args.length := by omega
          have hexs := HT.out
          rw [List.take_length] at hexs
          rcases name with _ | ⟨xname, rname⟩
          · rcases callee with _ | ⟨xcallee, rcallee⟩
            · have F := Lib.hid (show rowHead ⟨1, 2, false, f, m, false, false⟩ ⟨7, no, [], typ, [], args, body, els⟩ = false by simp [rowHead, howB, hexs, hf, hm])
              obtain ⟨q0, _, q2, q3, q4, _, q6, q7⟩ := HXR.out
              simp only at q0 q2 q3 q4 q6 q7
              go_wp2_with fail
              go_ret
              exact ⟨by rw [F.out]; rfl, HB.out⟩
            · by_cases hc : nameB (xcallee :: rcallee) = true
              · by_cases ht : typ = 0
                · have ht' : (typ != 0) = false := by simpa using ht
                  rcases body with _ | ⟨xbody, rbody⟩
                  · rcases els with _ | ⟨xels, rels⟩
                    · have F := Lib.hid (show rowHead ⟨1, 2, false, f, m, false, false⟩ ⟨7, no, [], typ, (xcallee :: rcallee), args, [], []⟩ = true by simp [rowHead, howB, hexs, hf, hm, hc, ht])
                      clear ht
                      obtain ⟨q0, _, q2, q3, q4, _, q6, q7⟩ := HXR.out
                      simp only at q0 q2 q3 q4 q6 q7
                      go_wp2_with fail
                      refine (refName_calls (xcallee :: rcallee) lcallee _).mono ?_
                      rintro e w2 ⟨rfl, hb⟩
                      have HX2 := Lib.hid (HXR.out.keep hb hzr)
                      have HB2 := Lib.hid (after HB.out hb)
                      have hz2 := Nat.lt_of_lt_of_le hzr hb.size
                      clear hb q0 q2 q3 q4 q6 q7
                      obtain ⟨q0, _, q2, q3, q4, _, q6, q7⟩ := HX2.out
                      simp only at q0 q2 q3 q4 q6 q7
                      rw [hc]
                      go_wp2_with fail
                      go_ret
                      exact ⟨by rw [F.out]; rfl, HB2.out⟩
                    · have F := Lib.hid (show rowHead ⟨1, 2, false, f, m, false, false⟩ ⟨7, no, [], typ, (xcallee :: rcallee), args, [], (xels :: rels)⟩ = false by simp [rowHead, howB, hexs, hf, hm, hc, ht])
                      clear ht
                      obtain ⟨q0, _, q2, q3, q4, _, q6, q7⟩ := HXR.out
                      simp only at q0 q2 q3 q4 q6 q7
                      go_wp2_with fail
                      refine (refName_calls (xcallee :: rcallee) lcallee _).mono ?_
                      rintro e w2 ⟨rfl, hb⟩
                      have HX2 := Lib.hid (HXR.out.keep hb hzr)
                      have HB2 := Lib.hid (after HB.out hb)
                      have hz2 := Nat.lt_of_lt_of_le hzr hb.size
                      clear hb q0 q2 q3 q4 q6 q7
                      obtain ⟨q0, _, q2, q3, q4, _, q6, q7⟩ := HX2.out
                      simp only at q0 q2 q3 q4 q6 q7
                      rw [hc]
                      go_wp2_with fail
                      go_ret
                      exact ⟨by rw [F.out]; rfl, HB2.out⟩
                  · have F := Lib.hid (show rowHead ⟨1, 2, false, f, m, false, false⟩ ⟨7, no, [], typ, (xcallee :: rcallee), args, (xbody :: rbody), els⟩ = false by simp [rowHead, howB, hexs, hf, hm, hc, ht])
                    clear ht
                    obtain ⟨q0, _, q2, q3, q4, _, q6, q7⟩ := HXR.out
                    simp only at q0 q2 q3 q4 q6 q7
                    go_wp2_with fail
                    refine (refName_calls (xcallee :: rcallee) lcallee _).mono ?_
                    rintro e w2 ⟨rfl, hb⟩
                    have HX2 := Lib.hid (HXR.out.keep hb hzr)
                    have HB2 := Lib.hid (after HB.out hb)
                    have hz2 := Nat.lt_of_lt_of_le hzr hb.size
                    clear hb q0 q2 q3 q4 q6 q7
                    obtain ⟨q0, _, q2, q3, q4, _, q6, q7⟩ := HX2.out
                    simp only at q0 q2 q3 q4 q6 q7
                    rw [hc]
                    go_wp2_with fail
                    go_ret
                    exact ⟨by rw [F.out]; rfl, HB2.out⟩
                · have ht' : (typ != 0) = true := by simpa using ht
                  have F := Lib.hid (show rowHead ⟨1, 2, false, f, m, false, false⟩ ⟨7, no, [], typ, (xcallee :: rcallee), args, body, els⟩ = false by simp [rowHead, howB, hexs, hf, hm, hc, ht])
                  clear ht
                  obtain ⟨q0, _, q2, q3, q4, _, q6, q7⟩ := HXR.out
                  simp only at q0 q2 q3 q4 q6 q7
                  go_wp2_with fail
                  refine (refName_calls (xcallee :: rcallee) lcallee _).mono ?_
                  rintro e w2 ⟨rfl, hb⟩
                  have HX2 := Lib.hid (HXR.out.keep hb hzr)
                  have HB2 := Lib.hid (after HB.out hb)
                  have hz2 := Nat.lt_of_lt_of_le hzr hb.size
                  clear hb q0 q2 q3 q4 q6 q7
                  obtain ⟨q0, _, q2, q3, q4, _, q6, q7⟩ := HX2.out
                  simp only at q0 q2 q3 q4 q6 q7
                  rw [hc]
                  go_wp2_with fail
                  go_ret
                  exact ⟨by rw [F.out]; rfl, HB2.out⟩
              · simp only [Bool.not_eq_true] at hc
                have F := Lib.hid (show rowHead ⟨1, 2, false, f, m, false, false⟩ ⟨7, no, [], typ, (xcallee :: rcallee), args, body, els⟩ = false by simp [rowHead, howB, hexs, hf, hm, hc])
                obtain ⟨q0, _, q2, q3, q4, _, q6, q7⟩ := HXR.out
                simp only at q0 q2 q3 q4 q6 q7
                go_wp2_with fail
                refine (refName_calls (xcallee :: rcallee) lcallee _).mono ?_
                rintro e w2 ⟨rfl, hb⟩
                have HX2 := Lib.hid (HXR.out.keep hb hzr)
                have HB2 := Lib.hid (after HB.out hb)
                have hz2 := Nat.lt_of_lt_of_le hzr hb.size
                clear hb q0 q2 q3 q4 q6 q7
                obtain ⟨q0, _, q2, q3, q4, _, q6, q7⟩ := HX2.out
                simp only at q0 q2 q3 q4 q6 q7
                rw [hc]
                go_wp2_with fail
                go_ret
                exact ⟨by rw [F.out]; rfl, HB2.out⟩
          · by_cases hn : nameB (xname :: rname) = true
            · rcases callee with _ | ⟨xcallee, rcallee⟩
              · have F := Lib.hid (show rowHead ⟨1, 2, false, f, m, false, false⟩ ⟨7, no, (xname :: rname), typ, [], args, body, els⟩ = false by simp [rowHead, howB, hexs, hf, hm, hn])
                obtain ⟨q0, _, q2, q3, q4, _, q6, q7⟩ := HXR.out
                simp only at q0 q2 q3 q4 q6 q7
                go_wp2_with fail
                refine (refName_calls (xname :: rname) lname _).mono ?_
                rintro e w2 ⟨rfl, hb⟩
                have HX2 := Lib.hid (HXR.out.keep hb hzr)
                have HB2 := Lib.hid (after HB.out hb)
                have hz2 := Nat.lt_of_lt_of_le hzr hb.size
                clear hb q0 q2 q3 q4 q6 q7
                obtain ⟨q0, _, q2, q3, q4, _, q6, q7⟩ := HX2.out
                simp only at q0 q2 q3 q4 q6 q7
                rw [hn]
                go_wp2_with fail
                go_ret
                exact ⟨by rw [F.out]; rfl, HB2.out⟩
              · by_cases hc : nameB (xcallee :: rcallee) = true
                · by_cases ht : typ = 0
                  · have ht' : (typ != 0) = false := by simpa using ht
                    rcases body with _ | ⟨xbody, rbody⟩
                    · rcases els with _ | ⟨xels, rels⟩
                      · have F := Lib.hid (show rowHead ⟨1, 2, false, f, m, false, false⟩ ⟨7, no, (xname :: rname), typ, (xcallee :: rcallee), args, [], []⟩ = true by simp [rowHead, howB, hexs, hf, hm, hn, hc, ht])
                        clear ht
                        obtain ⟨q0, _, q2, q3, q4, _, q6, q7⟩ := HXR.out
                        simp only at q0 q2 q3 q4 q6 q7
                        go_wp2_with fail
                        refine (refName_calls (xname :: rname) lname _).mono ?_
                        rintro e w2 ⟨rfl, hb⟩
                        have HX2 := Lib.hid (HXR.out.keep hb hzr)
                        have HB2 := Lib.hid (after HB.out hb)
                        have hz2 := Nat.lt_of_lt_of_le hzr hb.size
                        clear hb q0 q2 q3 q4 q6 q7
                        obtain ⟨q0, _, q2, q3, q4, _, q6, q7⟩ := HX2.out
                        simp only at q0 q2 q3 q4 q6 q7
                        rw [hn]
                        go_wp2_with fail
                        refine (refName_calls (xcallee :: rcallee) lcallee _).mono ?_
                        rintro e w3 ⟨rfl, hb⟩
                        have HX3 := Lib.hid (HX2.out.keep hb hz2)
                        have HB3 := Lib.hid (after HB2.out hb)
                        have hz3 := Nat.lt_of_lt_of_le hz2 hb.size
                        clear hb q0 q2 q3 q4 q6 q7
                        obtain ⟨q0, _, q2, q3, q4, _, q6, q7⟩ := HX3.out
                        simp only at q0 q2 q3 q4 q6 q7
                        rw [hc]
                        go_wp2_with fail
                        go_ret
                        exact ⟨by rw [F.out]; rfl, HB3.out⟩
                      · have F := Lib.hid (show rowHead ⟨1, 2, false, f, m, false, false⟩ ⟨7, no, (xname :: rname), typ, (xcallee :: rcallee), args, [], (xels :: rels)⟩ = false by simp [rowHead, howB, hexs, hf, hm, hn, hc, ht])
                        clear ht
                        obtain ⟨q0, _, q2, q3, q4, _, q6, q7⟩ := HXR.out
                        simp only at q0 q2 q3 q4 q6 q7
                        go_wp2_with fail
                        refine (refName_calls (xname :: rname) lname _).mono ?_
                        rintro e w2 ⟨rfl, hb⟩
                        have HX2 := Lib.hid (HXR.out.keep hb hzr)
                        have HB2 := Lib.hid (after HB.out hb)
                        have hz2 := Nat.lt_of_lt_of_le hzr hb.size
                        clear hb q0 q2 q3 q4 q6 q7
                        obtain ⟨q0, _, q2, q3, q4, _, q6, q7⟩ := HX2.out
                        simp only at q0 q2 q3 q4 q6 q7
                        rw [hn]
                        go_wp2_with fail
                        refine (refName_calls (xcallee :: rcallee) lcallee _).mono ?_
                        rintro e w3 ⟨rfl, hb⟩
                        have HX3 := Lib.hid (HX2.out.keep hb hz2)
                        have HB3 := Lib.hid (after HB2.out hb)
                        have hz3 := Nat.lt_of_lt_of_le hz2 hb.size
                        clear hb q0 q2 q3 q4 q6 q7
                        obtain ⟨q0, _, q2, q3, q4, _, q6, q7⟩ := HX3.out
                        simp only at q0 q2 q3 q4 q6 q7
                        rw [hc]
                        go_wp2_with fail
                        go_ret
                        exact ⟨by rw [F.out]; rfl, HB3.out⟩
                    · have F := Lib.hid (show rowHead ⟨1, 2, false, f, m, false, false⟩ ⟨7, no, (xname :: rname), typ, (xcallee :: rcallee), args, (xbody :: rbody), els⟩ = false by simp [rowHead, howB, hexs, hf, hm, hn, hc, ht])
                      clear ht
                      obtain ⟨q0, _, q2, q3, q4, _, q6, q7⟩ := HXR.out
                      simp only at q0 q2 q3 q4 q6 q7
                      go_wp2_with fail
                      refine (refName_calls (xname :: rname) lname _).mono ?_
                      rintro e w2 ⟨rfl, hb⟩
                      have HX2 := Lib.hid (HXR.out.keep hb hzr)
                      have HB2 := Lib.hid (after HB.out hb)
                      have hz2 := Nat.lt_of_lt_of_le hzr hb.size
                      clear hb q0 q2 q3 q4 q6 q7
                      obtain ⟨q0, _, q2, q3, q4, _, q6, q7⟩ := HX2.out
                      simp only at q0 q2 q3 q4 q6 q7
                      rw [hn]
                      go_wp2_with fail
                      refine (refName_calls (xcallee :: rcallee) lcallee _).mono ?_
                      rintro e w3 ⟨rfl, hb⟩
                      have HX3 := Lib.hid (HX2.out.keep hb hz2)
                      have HB3 := Lib.hid (after HB2.out hb)
                      have hz3 := Nat.lt_of_lt_of_le hz2 hb.size
                      clear hb q0 q2 q3 q4 q6 q7
                      obtain ⟨q0, _, q2, q3, q4, _, q6, q7⟩ := HX3.out
                      simp only at q0 q2 q3 q4 q6 q7
                      rw [hc]
                      go_wp2_with fail
                      go_ret
                      exact ⟨by rw [F.out]; rfl, HB3.out⟩
                  · have ht' : (typ != 0) = true := by simpa using ht
                    have F := Lib.hid (show rowHead ⟨1, 2, false, f, m, false, false⟩ ⟨7, no, (xname :: rname), typ, (xcallee :: rcallee), args, body, els⟩ = false by simp [rowHead, howB, hexs, hf, hm, hn, hc, ht])
                    clear ht
                    obtain ⟨q0, _, q2, q3, q4, _, q6, q7⟩ := HXR.out
                    simp only at q0 q2 q3 q4 q6 q7
                    go_wp2_with fail
                    refine (refName_calls (xname :: rname) lname _).mono ?_
                    rintro e w2 ⟨rfl, hb⟩
                    have HX2 := Lib.hid (HXR.out.keep hb hzr)
                    have HB2 := Lib.hid (after HB.out hb)
                    have hz2 := Nat.lt_of_lt_of_le hzr hb.size
                    clear hb q0 q2 q3 q4 q6 q7
                    obtain ⟨q0, _, q2, q3, q4, _, q6, q7⟩ := HX2.out
                    simp only at q0 q2 q3 q4 q6 q7
                    rw [hn]
                    go_wp2_with fail
                    refine (refName_calls (xcallee :: rcallee) lcallee _).mono ?_
                    rintro e w3 ⟨rfl, hb⟩
                    have HX3 := Lib.hid (HX2.out.keep hb hz2)
                    have HB3 := Lib.hid (after HB2.out hb)
                    have hz3 := Nat.lt_of_lt_of_le hz2 hb.size
                    clear hb q0 q2 q3 q4 q6 q7
                    obtain ⟨q0, _, q2, q3, q4, _, q6, q7⟩ := HX3.out
                    simp only at q0 q2 q3 q4 q6 q7
                    rw [hc]
                    go_wp2_with fail
                    go_ret
                    exact ⟨by rw [F.out]; rfl, HB3.out⟩
                · simp only [Bool.not_eq_true] at hc
                  have F := Lib.hid (show rowHead ⟨1, 2, false, f, m, false, false⟩ ⟨7, no, (xname :: rname), typ, (xcallee :: rcallee), args, body, els⟩ = false by simp [rowHead, howB, hexs, hf, hm, hn, hc])
                  obtain ⟨q0, _, q2, q3, q4, _, q6, q7⟩ := HXR.out
                  simp only at q0 q2 q3 q4 q6 q7
                  go_wp2_with fail
                  refine (refName_calls (xname :: rname) lname _).mono ?_
                  rintro e w2 ⟨rfl, hb⟩
                  have HX2 := Lib.hid (HXR.out.keep hb hzr)
                  have HB2 := Lib.hid (after HB.out hb)
                  have hz2 := Nat.lt_of_lt_of_le hzr hb.size
                  clear hb q0 q2 q3 q4 q6 q7
                  obtain ⟨q0, _, q2, q3, q4, _, q6, q7⟩ := HX2.out
                  simp only at q0 q2 q3 q4 q6 q7
                  rw [hn]
                  go_wp2_with fail
                  refine (refName_calls (xcallee :: rcallee) lcallee _).mono ?_
                  rintro e w3 ⟨rfl, hb⟩
                  have HX3 := Lib.hid (HX2.out.keep hb hz2)
                  have HB3 := Lib.hid (after HB2.out hb)
                  have hz3 := Nat.lt_of_lt_of_le hz2 hb.size
                  clear hb q0 q2 q3 q4 q6 q7
                  obtain ⟨q0, _, q2, q3, q4, _, q6, q7⟩ := HX3.out
                  simp only at q0 q2 q3 q4 q6 q7
                  rw [hc]
                  go_wp2_with fail
                  go_ret
                  exact ⟨by rw [F.out]; rfl, HB3.out⟩
            · simp only [Bool.not_eq_true] at hn
              have F := Lib.hid (show rowHead ⟨1, 2, false, f, m, false, false⟩ ⟨7, no, (xname :: rname), typ, callee, args, body, els⟩ = false by simp [rowHead, howB, hexs, hf, hm, hn])
              obtain ⟨q0, _, q2, q3, q4, _, q6, q7⟩ := HXR.out
              simp only at q0 q2 q3 q4 q6 q7
              go_wp2_with fail
              refine (refName_calls (xname :: rname) lname _).mono ?_
              rintro e w2 ⟨rfl, hb⟩
              have HX2 := Lib.hid (HXR.out.keep hb hzr)
              have HB2 := Lib.hid (after HB.out hb)
              have hz2 := Nat.lt_of_lt_of_le hzr hb.size
              clear hb q0 q2 q3 q4 q6 q7
              obtain ⟨q0, _, q2, q3, q4, _, q6, q7⟩ := HX2.out
              simp only at q0 q2 q3 q4 q6 q7
              rw [hn]
              go_wp2_with fail
              go_ret
              exact ⟨by rw [F.out]; rfl, HB2.out⟩
    · have F := Lib.hid (show rowHead ⟨1, 2, false, f, m, false, false⟩ ⟨7, no, name, typ, callee, args, body, els⟩ = false by simp [rowHead, hm])
      have hm' : (m : Int) < (args.length : Int) := by omega
      have hf' : ¬ (args.length : Int) < (f : Int) := by omega
      go_enter Tryd.func100, Tryd.ntmps100
      go_wp2_with fail
      refine (HR.out _).mono ?_
      rintro e w1 ⟨rfl, rfl⟩
      go_wp2_with fail
      go_ret
      exact ⟨by rw [F.out]; rfl, bal _ _⟩
  · have F := Lib.hid (show rowHead ⟨1, 2, false, f, m, false, false⟩ ⟨7, no, name, typ, callee, args, body, els⟩ = false by simp [rowHead, hf])
    have hf' : (args.length : Int) < (f : Int) := by omega
    go_enter Tryd.func100, Tryd.ntmps100
    go_wp2_with fail
    refine (HR.out _).mono ?_
    rintro e w1 ⟨rfl, rfl⟩
    go_wp2_with fail
    go_ret
    exact ⟨by rw [F.out]; rfl, bal _ _⟩
end Go.Proofs.YthiilnhiihfknaaDoor

namespace Go.Proofs.YthiilnhiihfknaaDoor
open Go Go.RowKit

set_option maxRecDepth 100000 in
set_option maxHeartbeats 20000000 in
theorem refHead_E (f m : Nat) (hrow : RowC 9 false f m) (no : Int) (name : Bytes) (typ : Int) (callee : Bytes) (args : List Ex) (body els : List St) (lname : name.length ≤ 9223372036854775807) (lcallee : callee.length ≤ 9223372036854775807)
    (va vb ve : Value) (w : World) (hA : EIn w w.heap.size args va) (hB : SIn w w.heap.size body vb) (hE : SIn w w.heap.size els ve) :
    Calls Tryd.prog 100 #[.agg #[.int .i64 9, .int .i64 no, .string (B name), .int .i64 typ, .string (B callee), va, vb, ve]] w fun e w' => e = .returned (.bool (rowHead ⟨0, 0, false, f, m, true, true⟩ ⟨9, no, name, typ, callee, args, body, els⟩)) ∧ Below w.heap.size w w' := by
  obtain ⟨Aa, ca, rfl⟩ := hA.slice
  obtain ⟨Ab, cb, rfl⟩ := hB.slice
  obtain ⟨Ae, ce, rfl⟩ := hE.slice
  have l1 := hA.le
  have l2 := hB.le
  have l3 := hE.le
  have HA := Lib.hid hA
  have HR := Lib.hid hrow
  clear hA hB hE hrow
  by_cases hf : f ≤ args.length
  · by_cases hm : args.length ≤ m
    · have hf' : ¬ (args.length : Int) < (f : Int) := by omega
      have hm' : ¬ (m : Int) < (args.length : Int) := by omega
      have hf'' : decide (args.length < f) = false := by simpa using hf
      have hm'' : decide (m < args.length) = false := by simpa using hm
      have HX := Lib.hid (SBox.new w ⟨9, no, name, typ, callee, args, body, els⟩ (.slice Aa args.length ca) (.slice Ab body.length cb) (.slice Ae els.length ce))
      go_enter Tryd.func100, Tryd.ntmps100
      go_wp2_with fail
      refine (HR.out _).mono ?_
      rintro e w1 ⟨rfl, rfl⟩
      go_wp2_with fail
      go_loopw [7] (fun i wr => ∃ n : Nat, n ≤ args.length ∧ i = .int .i64 n ∧ exsB (args.take n) = true ∧ Below (w.heap.size + 1) (w.alloc (sO ⟨9, no, name, typ, callee, args, body, els⟩ (.slice Aa args.length ca) (.slice Ab body.length cb) (.slice Ae els.length ce))) wr) (fun i _ => args.length - (intOf i).toNat)
      case atStart => exact ⟨0, by omega, rfl, rfl, by have := Below.refl (w.heap.size + 1) (w.alloc (sO ⟨9, no, name, typ, callee, args, body, els⟩ (.slice Aa args.length ca) (.slice Ab body.length cb) (.slice Ae els.length ce))); exact this⟩
      case round =>
        obtain ⟨n, hn, rfl, ht, hbw⟩ := hrel
        have HT := Lib.hid ht
        have HXR := Lib.hid (HX.out.keep hbw (by omega))
        have hzr : w.heap.size < wr.heap.size := by have := hbw.size; simp at this; omega
        have HB := Lib.hid (after (bal w _) (by rw [sz1]; exact hbw))
        have HBR := Lib.hid hbw
        clear ht hbw
        by_cases hlt : n < args.length
        · obtain ⟨b, o, v', hA, hbl, hoe, hc, hsub⟩ := (HA.out.at_).2 n hlt
          obtain ⟨a0, a1, a2, a3, a4⟩ := hc.keep (fun i => HB.out.cell (p := ⟨b, i, none⟩) hbl)
          obtain ⟨A', c', rfl⟩ := hsub.slice
          have HS := Lib.hid hsub
          subst hA
          clear hsub hc
          obtain ⟨q0, _, q2, q3, q4, q5, q6, q7⟩ := HXR.out
          simp only at q0 q2 q3 q4 q5 q6 q7
          have HY := Lib.hid (exsB_snoc hlt)
          have HN := Lib.hid (fun h : exB args[n] = false => exsB_no hlt h)
          generalize args[n] = x at *
          cases h0 : exB x with
          | false =>
            have HE := Lib.hid h0
            clear h0
            have F := Lib.hid (show rowHead ⟨0, 0, false, f, m, true, true⟩ ⟨9, no, name, typ, callee, args, body, els⟩ = false by simp [rowHead, HN.out HE.out])
            go_wp2_with fail
            refine (refExpr_calls x hoe _ _ (HS.out.up HB.out)).mono ?_
            rintro x' w2 ⟨rfl, hb⟩
            have HB2 := Lib.hid (after HB.out hb)
            clear hb
            rw [HE.out, errI_false]
            go_wp2_with fail
            go_ret
            exact ⟨by rw [F.out]; rfl, HB2.out⟩
          | true =>
            have HE := Lib.hid h0
            clear h0
            go_wp2_with fail
            refine (refExpr_calls x hoe _ _ (HS.out.up HB.out)).mono ?_
            rintro x' w2 ⟨rfl, hb⟩
            have HR2 := Lib.hid ((HBR.out).trans (hb.mono (by omega)))
            clear hb
            rw [HE.out, errI_true]
            go_wp2_with fail
            go_roundw
            case rel => exact ⟨n + 1, by omega, by go_num, by rw [HY.out, HT.out, HE.out]; rfl, HR2.out⟩
            case measure => simp [intOf]; omega
        · obtain rfl : n = args.length := by omega
          have hexs := HT.out
          rw [List.take_length] at hexs
          rcases name with _ | ⟨xname, rname⟩
          · rcases callee with _ | ⟨xcallee, rcallee⟩
            · by_cases ht : typ = 0
              · have ht' : (typ != 0) = false := by simpa using ht
                rcases body with _ | ⟨xbody, rbody⟩
                · rcases els with _ | ⟨xels, rels⟩
                  · have F := Lib.hid (show rowHead ⟨0, 0, false, f, m, true, true⟩ ⟨9, no, [], typ, [], args, [], []⟩ = true by simp [rowHead, howB, hexs, hf, hm, ht])
                    clear ht
                    obtain ⟨q0, _, q2, q3, q4, _, q6, q7⟩ := HXR.out
                    simp only at q0 q2 q3 q4 q6 q7
                    go_wp2_with fail
                    go_ret
                    exact ⟨by rw [F.out]; rfl, HB.out⟩
                  · have F := Lib.hid (show rowHead ⟨0, 0, false, f, m, true, true⟩ ⟨9, no, [], typ, [], args, [], (xels :: rels)⟩ = true by simp [rowHead, howB, hexs, hf, hm, ht])
                    clear ht
                    obtain ⟨q0, _, q2, q3, q4, _, q6, q7⟩ := HXR.out
                    simp only at q0 q2 q3 q4 q6 q7
                    go_wp2_with fail
                    go_ret
                    exact ⟨by rw [F.out]; rfl, HB.out⟩
                · rcases els with _ | ⟨xels, rels⟩
                  · have F := Lib.hid (show rowHead ⟨0, 0, false, f, m, true, true⟩ ⟨9, no, [], typ, [], args, (xbody :: rbody), []⟩ = true by simp [rowHead, howB, hexs, hf, hm, ht])
                    clear ht
                    obtain ⟨q0, _, q2, q3, q4, _, q6, q7⟩ := HXR.out
                    simp only at q0 q2 q3 q4 q6 q7
                    go_wp2_with fail
                    go_ret
                    exact ⟨by rw [F.out]; rfl, HB.out⟩
                  · have F := Lib.hid (show rowHead ⟨0, 0, false, f, m, true, true⟩ ⟨9, no, [], typ, [], args, (xbody :: rbody), (xels :: rels)⟩ = true by simp [rowHead, howB, hexs, hf, hm, ht])
                    clear ht
                    obtain ⟨q0, _, q2, q3, q4, _, q6, q7⟩ := HXR.out
                    simp only at q0 q2 q3 q4 q6 q7
                    go_wp2_with fail
                    go_ret
                    exact ⟨by rw [F.out]; rfl, HB.out⟩
              · have ht' : (typ != 0) = true := by simpa using ht
                have F := Lib.hid (show rowHead ⟨0, 0, false, f, m, true, true⟩ ⟨9, no, [], typ, [], args, body, els⟩ = false by simp [rowHead, howB, hexs, hf, hm, ht])
                clear ht
                obtain ⟨q0, _, q2, q3, q4, _, q6, q7⟩ := HXR.out
                simp only at q0 q2 q3 q4 q6 q7
                go_wp2_with fail
                go_ret
                exact ⟨by rw [F.out]; rfl, HB.out⟩
            · have F := Lib.hid (show rowHead ⟨0, 0, false, f, m, true, true⟩ ⟨9, no, [], typ, (xcallee :: rcallee), args, body, els⟩ = false by simp [rowHead, howB, hexs, hf, hm])
              obtain ⟨q0, _, q2, q3, q4, _, q6, q7⟩ := HXR.out
              simp only at q0 q2 q3 q4 q6 q7
              go_wp2_with fail
              go_ret
              exact ⟨by rw [F.out]; rfl, HB.out⟩
          · have F := Lib.hid (show rowHead ⟨0, 0, false, f, m, true, true⟩ ⟨9, no, (xname :: rname), typ, callee, args, body, els⟩ = false by simp [rowHead, howB, hexs, hf, hm])
            obtain ⟨q0, _, q2, q3, q4, _, q6, q7⟩ := HXR.out
            simp only at q0 q2 q3 q4 q6 q7
            go_wp2_with fail
            go_ret
            exact ⟨by rw [F.out]; rfl, HB.out⟩
    · have F := Lib.hid (show rowHead ⟨0, 0, false, f, m, true, true⟩ ⟨9, no, name, typ, callee, args, body, els⟩ = false by simp [rowHead, hm])
      have hm' : (m : Int) < (args.length : Int) := by omega
      have hf' : ¬ (args.length : Int) < (f : Int) := by omega
      go_enter Tryd.func100, Tryd.ntmps100
      go_wp2_with fail
      refine (HR.out _).mono ?_
      rintro e w1 ⟨rfl, rfl⟩
      go_wp2_with fail
      go_ret
      exact ⟨by rw [F.out]; rfl, bal _ _⟩
  · have F := Lib.hid (show rowHead ⟨0, 0, false, f, m, true, true⟩ ⟨9, no, name, typ, callee, args, body, els⟩ = false by simp [rowHead, hf])
    have hf' : (args.length : Int) < (f : Int) := by omega
    go_enter Tryd.func100, Tryd.ntmps100
    go_wp2_with fail
    refine (HR.out _).mono ?_
    rintro e w1 ⟨rfl, rfl⟩
    go_wp2_with fail
    go_ret
    exact ⟨by rw [F.out]; rfl, bal _ _⟩
end Go.Proofs.YthiilnhiihfknaaDoor

namespace Go.Proofs.YthiilnhiihfknaaDoor
open Go Go.RowKit

set_option maxRecDepth 100000 in
set_option maxHeartbeats 20000000 in
theorem refHead_F (f m : Nat) (hrow : RowC 10 false f m) (no : Int) (name : Bytes) (typ : Int) (callee : Bytes) (args : List Ex) (body els : List St) (lname : name.length ≤ 9223372036854775807) (lcallee : callee.length ≤ 9223372036854775807)
    (va vb ve : Value) (w : World) (hA : EIn w w.heap.size args va) (hB : SIn w w.heap.size body vb) (hE : SIn w w.heap.size els ve) :
    Calls Tryd.prog 100 #[.agg #[.int .i64 10, .int .i64 no, .string (B name), .int .i64 typ, .string (B callee), va, vb, ve]] w fun e w' => e = .returned (.bool (rowHead ⟨0, 0, false, f, m, true, false⟩ ⟨10, no, name, typ, callee, args, body, els⟩)) ∧ Below w.heap.size w w' := by
  obtain ⟨Aa, ca, rfl⟩ := hA.slice
  obtain ⟨Ab, cb, rfl⟩ := hB.slice
  obtain ⟨Ae, ce, rfl⟩ := hE.slice
  have l1 := hA.le
  have l2 := hB.le
  have l3 := hE.le
  have HA := Lib.hid hA
  have HR := Lib.hid hrow
  clear hA hB hE hrow
  by_cases hf : f ≤ args.length
  · by_cases hm : args.length ≤ m
    · have hf' : ¬ (args.length : Int) < (f : Int) := by omega
      have hm' : ¬ (m : Int) < (args.length : Int) := by omega
      have hf'' : decide (args.length < f) = false := by simpa using hf
      have hm'' : decide (m < args.length) = false := by simpa using hm
      have HX := Lib.hid (SBox.new w ⟨10, no, name, typ, callee, args, body, els⟩ (.slice Aa args.length ca) (.slice Ab body.length cb) (.slice Ae els.length ce))
      go_enter Tryd.func100, Tryd.ntmps100
      go_wp2_with fail
      refine (HR.out _).mono ?_
      rintro e w1 ⟨rfl, rfl⟩
      go_wp2_with fail
      go_loopw [7] (fun i wr => ∃ n : Nat, n ≤ args.length ∧ i = .int .i64 n ∧ exsB (args.take n) = true ∧ Below (w.heap.size + 1) (w.alloc (sO ⟨10, no, name, typ, callee, args, body, els⟩ (.slice Aa args.length ca) (.slice Ab body.length cb) (.slice Ae els.length ce))) wr) (fun i _ => args.length - (intOf i).toNat)
      case atStart => exact ⟨0, by omega, rfl, rfl, by have := Below.refl (w.heap.size + 1) (w.alloc (sO ⟨10, no, name, typ, callee, args, body, els⟩ (.slice Aa args.length ca) (.slice Ab body.length cb) (.slice Ae els.length ce))); exact this⟩
      case round =>
        obtain ⟨n, hn, rfl, ht, hbw⟩ := hrel
        have HT := Lib.hid ht
        have HXR := Lib.hid (HX.out.keep hbw (by omega))
        have hzr : w.heap.size < wr.heap.size := by have := hbw.size; simp at this; omega
        have HB := Lib.hid (after (bal w _) (by rw [sz1]; exact hbw))
        have HBR := Lib.hid hbw
        clear ht hbw
        by_cases hlt : n < args.length
        · obtain ⟨b, o, v', hA, hbl, hoe, hc, hsub⟩ := (HA.out.at_).2 n hlt
          obtain ⟨a0, a1, a2, a3, a4⟩ := hc.keep (fun i => HB.out.cell (p := ⟨b, i, none⟩) hbl)
          obtain ⟨A', c', rfl⟩ := hsub.slice
          have HS := Lib.hid hsub
          subst hA
          clear hsub hc
          obtain ⟨q0, _, q2, q3, q4, q5, q6, q7⟩ := HXR.out
          simp only at q0 q2 q3 q4 q5 q6 q7
          have HY := Lib.hid (exsB_snoc hlt)
          have HN := Lib.hid (fun h : exB args[n] = false => exsB_no hlt h)
          generalize args[n] = x at *
          cases h0 : exB x with
          | false =>
            have HE := Lib.hid h0
            clear h0
            have F := Lib.hid (show rowHead ⟨0, 0, false, f, m, true, false⟩ ⟨10, no, name, typ, callee, args, body, els⟩ = false by simp [rowHead, HN.out HE.out])
            go_wp2_with fail
            refine (refExpr_calls x hoe _ _ (HS.out.up HB.out)).mono ?_
            rintro x' w2 ⟨rfl, hb⟩
            have HB2 := Lib.hid (after HB.out hb)
            clear hb
            rw [HE.out, errI_false]
            go_wp2_with fail
            go_ret
            exact ⟨by rw [F.out]; rfl, HB2.out⟩
          | true =>
            have HE := Lib.hid h0
            clear h0
            go_wp2_with fail
            refine (refExpr_calls x hoe _ _ (HS.out.up HB.out)).mono ?_
            rintro x' w2 ⟨rfl, hb⟩
            have HR2 := Lib.hid ((HBR.out).trans (hb.mono (by omega)))
            clear hb
            rw [HE.out, errI_true]
            go_wp2_with fail
            go_roundw
            case rel => exact ⟨n + 1, by omega, by go_num, by rw [HY.out, HT.out, HE.out]; rfl, HR2.out⟩
            case measure => simp [intOf]; omega
        · obtain rfl : n = args.length := by omega
          have hexs := HT.out
          rw [List.take_length] at hexs
          rcases name with _ | ⟨xname, rname⟩
          · rcases callee with _ | ⟨xcallee, rcallee⟩
            · by_cases ht : typ = 0
              · have ht' : (typ != 0) = false := by simpa using ht
                rcases body with _ | ⟨xbody, rbody⟩
                · rcases els with _ | ⟨xels, rels⟩
                  · have F := Lib.hid (show rowHead ⟨0, 0, false, f, m, true, false⟩ ⟨10, no, [], typ, [], args, [], []⟩ = true by simp [rowHead, howB, hexs, hf, hm, ht])
                    clear ht
                    obtain ⟨q0, _, q2, q3, q4, _, q6, q7⟩ := HXR.out
                    simp only at q0 q2 q3 q4 q6 q7
                    go_wp2_with fail
                    go_ret
                    exact ⟨by rw [F.out]; rfl, HB.out⟩
                  · have F := Lib.hid (show rowHead ⟨0, 0, false, f, m, true, false⟩ ⟨10, no, [], typ, [], args, [], (xels :: rels)⟩ = false by simp [rowHead, howB, hexs, hf, hm, ht])
                    clear ht
                    obtain ⟨q0, _, q2, q3, q4, _, q6, q7⟩ := HXR.out
                    simp only at q0 q2 q3 q4 q6 q7
                    go_wp2_with fail
                    go_ret
                    exact ⟨by rw [F.out]; rfl, HB.out⟩
                · rcases els with _ | ⟨xels, rels⟩
                  · have F := Lib.hid (show rowHead ⟨0, 0, false, f, m, true, false⟩ ⟨10, no, [], typ, [], args, (xbody :: rbody), []⟩ = true by simp [rowHead, howB, hexs, hf, hm, ht])
                    clear ht
                    obtain ⟨q0, _, q2, q3, q4, _, q6, q7⟩ := HXR.out
                    simp only at q0 q2 q3 q4 q6 q7
                    go_wp2_with fail
                    go_ret
                    exact ⟨by rw [F.out]; rfl, HB.out⟩
                  · have F := Lib.hid (show rowHead ⟨0, 0, false, f, m, true, false⟩ ⟨10, no, [], typ, [], args, (xbody :: rbody), (xels :: rels)⟩ = false by simp [rowHead, howB, hexs, hf, hm, ht])
                    clear ht
                    obtain ⟨q0, _, q2, q3, q4, _, q6, q7⟩ := HXR.out
                    simp only at q0 q2 q3 q4 q6 q7
                    go_wp2_with fail
                    go_ret
                    exact ⟨by rw [F.out]; rfl, HB.out⟩
              · have ht' : (typ != 0) = true := by simpa using ht
                have F := Lib.hid (show rowHead ⟨0, 0, false, f, m, true, false⟩ ⟨10, no, [], typ, [], args, body, els⟩ = false by simp [rowHead, howB, hexs, hf, hm, ht])
                clear ht
                obtain ⟨q0, _, q2, q3, q4, _, q6, q7⟩ := HXR.out
                simp only at q0 q2 q3 q4 q6 q7
                go_wp2_with fail
                go_ret
                exact ⟨by rw [F.out]; rfl, HB.out⟩
            · have F := Lib.hid (show rowHead ⟨0, 0, false, f, m, true, false⟩ ⟨10, no, [], typ, (xcallee :: rcallee), args, body, els⟩ = false by simp [rowHead, howB, hexs, hf, hm])
              obtain ⟨q0, _, q2, q3, q4, _, q6, q7⟩ := HXR.out
              simp only at q0 q2 q3 q4 q6 q7
              go_wp2_with fail
              go_ret
              exact ⟨by rw [F.out]; rfl, HB.out⟩
          · have F := Lib.hid (show rowHead ⟨0, 0, false, f, m, true, false⟩ ⟨10, no, (xname :: rname), typ, callee, args, body, els⟩ = false by simp [rowHead, howB, hexs, hf, hm])
            obtain ⟨q0, _, q2, q3, q4, _, q6, q7⟩ := HXR.out
            simp only at q0 q2 q3 q4 q6 q7
            go_wp2_with fail
            go_ret
            exact ⟨by rw [F.out]; rfl, HB.out⟩
    · have F := Lib.hid (show rowHead ⟨0, 0, false, f, m, true, false⟩ ⟨10, no, name, typ, callee, args, body, els⟩ = false by simp [rowHead, hm])
      have hm' : (m : Int) < (args.length : Int) := by omega
      have hf' : ¬ (args.length : Int) < (f : Int) := by omega
      go_enter Tryd.func100, Tryd.ntmps100
      go_wp2_with fail
      refine (HR.out _).mono ?_
      rintro e w1 ⟨rfl, rfl⟩
      go_wp2_with fail
      go_ret
      exact ⟨by rw [F.out]; rfl, bal _ _⟩
  · have F := Lib.hid (show rowHead ⟨0, 0, false, f, m, true, false⟩ ⟨10, no, name, typ, callee, args, body, els⟩ = false by simp [rowHead, hf])
    have hf' : (args.length : Int) < (f : Int) := by omega
    go_enter Tryd.func100, Tryd.ntmps100
    go_wp2_with fail
    refine (HR.out _).mono ?_
    rintro e w1 ⟨rfl, rfl⟩
    go_wp2_with fail
    go_ret
    exact ⟨by rw [F.out]; rfl, bal _ _⟩
end Go.Proofs.YthiilnhiihfknaaDoor
