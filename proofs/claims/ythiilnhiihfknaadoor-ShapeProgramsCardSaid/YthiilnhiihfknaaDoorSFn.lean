/-
  visit, rightStmts, rightParams, rightFunc, rightFuncs: contracts.
-/
import Derived.Test.YthiilnhiihfknaaDoorSVisitB
import Derived.Test.YthiilnhiihfknaaDoorSMm
namespace Go.Proofs.YthiilnhiihfknaaDoor
open Go Go.RowKit

theorem bal3 (w : World) (o1 o2 o3 : Obj) : Below w.heap.size w (((w.alloc o1).alloc o2).alloc o3) := ((bal2 w o1 o2).alloc (by simp; omega) _)
theorem blk1 (w : World) (o1 o2 o3 : Obj) : (((w.alloc o1).alloc o2).alloc o3).heap[w.heap.size]? = some o1 := by
  rw [(bal ((w.alloc o1).alloc o2) o3).block w.heap.size (by simp; omega), (bal (w.alloc o1) o2).block w.heap.size (by simp)]
  exact heap_alloc_new w o1
theorem blk2 (w : World) (o1 o2 o3 : Obj) : (((w.alloc o1).alloc o2).alloc o3).heap[w.heap.size + 1]? = some o2 := by
  rw [(bal ((w.alloc o1).alloc o2) o3).block (w.heap.size + 1) (by simp)]
  have := heap_alloc_new (w.alloc o1) o2
  rwa [sz1] at this
theorem blk3 (w : World) (o1 o2 o3 : Obj) : (((w.alloc o1).alloc o2).alloc o3).heap[w.heap.size + 2]? = some o3 := by
  have := heap_alloc_new ((w.alloc o1).alloc o2) o3
  rwa [sz1, sz1] at this
theorem Fr.low {N S : Nat} {w a b : World} (h : Below w.heap.size w a) (k : Fr N S a b) (hN : w.heap.size ≤ N) (hS : w.heap.size ≤ S) : Below w.heap.size w b :=
  ⟨k.os.trans h.os, k.tape.trans h.tape, k.output.trans h.output, Nat.le_trans h.size k.size, fun i hi => (k.block i (Nat.lt_of_lt_of_le hi h.size) (by omega) (by omega)).trans (h.block i hi)⟩

theorem bal4 (w : World) (o1 o2 o3 o4 : Obj) : Below w.heap.size w ((((w.alloc o1).alloc o2).alloc o3).alloc o4) := (bal3 w o1 o2 o3).alloc (by simp; omega) _

theorem b4 (w : World) (o1 o2 o3 o4 : Obj) : ((((w.alloc o1).alloc o2).alloc o3).alloc o4).heap[w.heap.size]? = some o1 ∧ ((((w.alloc o1).alloc o2).alloc o3).alloc o4).heap[w.heap.size + 1]? = some o2 ∧ ((((w.alloc o1).alloc o2).alloc o3).alloc o4).heap[w.heap.size + 1 + 1]? = some o3 ∧ ((((w.alloc o1).alloc o2).alloc o3).alloc o4).heap[w.heap.size + 1 + 1 + 1]? = some o4 ∧ ((((w.alloc o1).alloc o2).alloc o3).alloc o4).heap.size = w.heap.size + 1 + 1 + 1 + 1 := by
  have e := (bal (((w.alloc o1).alloc o2).alloc o3) o4).block
  refine ⟨?_, ?_, ?_, ?_, ?_⟩
  · rw [e _ (by simp <;> omega)]; exact blk1 w o1 o2 o3
  · rw [e _ (by simp <;> omega)]; exact blk2 w o1 o2 o3
  · rw [e _ (by simp <;> omega)]; exact blk3 w o1 o2 o3
  · have := heap_alloc_new (((w.alloc o1).alloc o2).alloc o3) o4
    rwa [sz1, sz1, sz1] at this
  · rw [sz1, sz1, sz1, sz1]
set_option maxHeartbeats 1000000 in
theorem visitA_calls (l : List St) (v : Value) (w : World) (hl : SIn w w.heap.size l v) (hG : Glob w) :
    Calls Tryd.prog 80 #[v, lookA] w fun e w' => e = .returned (.bool (vis FA 20 l 0).isSome) ∧ Below w.heap.size w w' := by
  obtain ⟨A, c, rfl⟩ := hl.slice
  have HL := Lib.hid hl
  have HG := Lib.hid hG
  clear hl hG
  go_enter Tryd.func80, Tryd.ntmps80
  go_wp2_with fail
  refine (visitA1_calls w.heap.size (w.heap.size + 1) w.heap.size (w.heap.size + 2) HG.out.lt (by omega) (by omega) (by omega) (by omega) (by omega) 20 l _ 0 _ (by omega) (by omega) ?_ (HG.out.up (bal3 w _ _ _)) (blk2 w _ _ _) (blk1 w _ _ _) (blk3 w _ _ _)).mono ?_
  · exact HL.out.bel (bal3 w _ _ _)
  rintro e w2 ⟨rfl, hf, _⟩
  have HB := Lib.hid (Fr.low (bal3 w _ _ _) hf (by omega) (by omega))
  clear hf
  go_wp2_with fail
  go_ret
  exact ⟨rfl, HB.out⟩

theorem rightStmts_calls (l : List St) (v : Value) (w : World) (hl : SIn w w.heap.size l v) (hG : Glob w) :
    Calls Tryd.prog 63 #[v] w fun e w' => e = .returned (.bool (rightL l)) ∧ Below w.heap.size w w' := by
  obtain ⟨A, c, rfl⟩ := hl.slice
  have HC := Lib.hid (visitA_calls l _ w hl hG)
  clear hl hG
  go_enter Tryd.func63, Tryd.ntmps63
  go_wp2_with fail
  refine HC.out.mono ?_
  rintro e w2 ⟨rfl, hb⟩
  have HB := Lib.hid hb
  clear hb
  go_wp2_with fail
  go_ret
  exact ⟨rfl, HB.out⟩

theorem paB_snoc {l : List Pa} {n : Nat} (h : n < l.length) : (l.take (n + 1)).all paB = ((l.take n).all paB && paB l[n]) := by
  rw [List.take_succ_eq_append_getElem h]
  simp only [List.all_append, List.all_cons, List.all_nil, Bool.and_true]
theorem all_no {α : Type} {f : α → Bool} {l : List α} {n : Nat} (h : n < l.length) (he : f l[n] = false) : l.all f = false := by
  rw [← Bool.not_eq_true, List.all_eq_true]
  intro hh
  rw [hh _ (List.getElem_mem h)] at he
  cases he
theorem all_snoc {α : Type} {f : α → Bool} {l : List α} {n : Nat} (h : n < l.length) : (l.take (n + 1)).all f = ((l.take n).all f && f l[n]) := by
  rw [List.take_succ_eq_append_getElem h]
  simp only [List.all_append, List.all_cons, List.all_nil, Bool.and_true]

set_option maxRecDepth 100000 in
set_option maxHeartbeats 2000000 in
theorem rightParams_calls (l : List Pa) (v : Value) (w : World) (hl : PIn w w.heap.size l v) (hG : Glob w) :
    Calls Tryd.prog 84 #[v] w fun e w' => e = .returned (.bool (pasB l)) ∧ Below w.heap.size w w' := by
  obtain ⟨A, c, rfl⟩ := hl.slice
  have hle := hl.le
  have HL := Lib.hid hl
  have HG := Lib.hid hG
  clear hl hG
  by_cases h8 : l.length ≤ 8
  · have h8' : ¬ (8 : Int) < (l.length : Int) := by omega
    have h8'' : decide (8 < l.length) = false := by simpa using h8
    go_enter Tryd.func84, Tryd.ntmps84
    go_wp2_with fail
    go_loopw [10] (fun i wr => ∃ n : Nat, n ≤ l.length ∧ i = .int .i64 n ∧ (l.take n).all paB = true ∧ Below w.heap.size w wr) (fun i _ => l.length - (intOf i).toNat)
    case atStart => exact ⟨0, by omega, rfl, rfl, Below.refl _ _⟩
    case round =>
      obtain ⟨n, hn, rfl, ht, hbw⟩ := hrel
      have HT := Lib.hid ht
      have HW := Lib.hid hbw
      have hz := hbw.size
      clear ht hbw
      by_cases hlt : n < l.length
      · obtain ⟨b, o, hA, hbl, hop, hc⟩ := HL.out.at_ n hlt
        obtain ⟨a0, a1⟩ := hc.keep (fun i => HW.out.cell (p := ⟨b, i, none⟩) hbl)
        have hnm := hop.name
        subst hA
        clear hc hop
        have HY := Lib.hid (all_snoc (f := paB) hlt)
        have HN := Lib.hid (fun h : paB l[n] = false => all_no hlt h)
        generalize l[n] = x at *
        have HBB := Lib.hid (HW.out.alloc hz (.cells #[.string (B x.name), .int .i64 x.typ] 61))
        cases h1 : nameB x.name with
        | false =>
          have H1 := Lib.hid h1
          have HE := Lib.hid (show pasB l = false by unfold pasB; rw [HN.out (by simp [paB, h1])]; simp)
          clear h1
          go_wp2_with fail
          refine (name_calls x.name hnm _ ((HG.out.up HW.out).al _).kw).mono ?_
          rintro e w1 ⟨rfl, rfl⟩
          rw [H1.out]
          go_wp2_with fail
          go_ret
          exact ⟨by rw [HE.out]; rfl, HBB.out⟩
        | true =>
          have H1 := Lib.hid h1
          cases h2 : typB x.typ with
          | false =>
            have H2 := Lib.hid h2
            have HE := Lib.hid (show pasB l = false by unfold pasB; rw [HN.out (by simp [paB, h2])]; simp)
            clear h1 h2
            go_wp2_with fail
            refine (name_calls x.name hnm _ ((HG.out.up HW.out).al _).kw).mono ?_
            rintro e w1 ⟨rfl, rfl⟩
            rw [H1.out]
            go_wp2_with fail
            refine (varType_calls x.typ _).mono ?_
            rintro e w1 ⟨rfl, rfl⟩
            rw [H2.out]
            go_wp2_with fail
            go_ret
            exact ⟨by rw [HE.out]; rfl, HBB.out⟩
          | true =>
            have H2 := Lib.hid h2
            have HE := Lib.hid (show paB x = true by simp [paB, h1, h2])
            clear h1 h2
            go_wp2_with fail
            refine (name_calls x.name hnm _ ((HG.out.up HW.out).al _).kw).mono ?_
            rintro e w1 ⟨rfl, rfl⟩
            rw [H1.out]
            go_wp2_with fail
            refine (varType_calls x.typ _).mono ?_
            rintro e w1 ⟨rfl, rfl⟩
            rw [H2.out]
            go_wp2_with fail
            go_roundw
            case rel => exact ⟨n + 1, by omega, by go_num, by rw [HY.out, HT.out, HE.out]; rfl, HBB.out⟩
            case measure => simp [intOf]; omega
      · obtain rfl : n = l.length := by omega
        have ht := HT.out
        rw [List.take_length] at ht
        have HE := Lib.hid (show pasB l = true by simp [pasB, ht, h8])
        clear ht
        go_wp2_with fail
        go_ret
        exact ⟨by rw [HE.out]; rfl, HW.out⟩
  · have h8' : (8 : Int) < (l.length : Int) := by omega
    have HE := Lib.hid (show pasB l = false by simp [pasB, h8])
    go_enter Tryd.func84, Tryd.ntmps84
    go_wp2_with fail
    go_ret
    exact ⟨by rw [HE.out]; rfl, Below.refl _ _⟩

set_option maxRecDepth 100000 in
set_option maxHeartbeats 4000000 in
theorem rightFunc_calls (f : Fn) (ho : OkF f) (vp vb : Value) (w : World) (hP : PIn w w.heap.size f.params vp) (hB : SIn w w.heap.size f.body vb) (hG : Glob w) :
    Calls Tryd.prog 61 #[fV f vp vb] w fun e w' => e = .returned (.bool (fnB f)) ∧ Below w.heap.size w w' := by
  obtain ⟨A1, c1, rfl⟩ := hP.slice
  obtain ⟨A2, c2, rfl⟩ := hB.slice
  have HP := Lib.hid hP
  have HB := Lib.hid hB
  have HG := Lib.hid hG
  have hnm := ho.name
  have HX := Lib.hid (FBox.new w f (.slice A1 f.params.length c1) (.slice A2 f.body.length c2))
  clear hP hB hG ho
  cases h1 : nameB f.name with
  | false =>
    have H1 := Lib.hid h1
    have HE := Lib.hid (show fnB f = false by simp [fnB, h1])
    clear h1
    go_enter Tryd.func61, Tryd.ntmps61
    go_wp2_with fail
    refine (name_calls f.name hnm _ (HG.out.al _).kw).mono ?_
    rintro e w1 ⟨rfl, rfl⟩
    rw [H1.out]
    go_wp2_with fail
    go_ret
    exact ⟨by rw [HE.out]; rfl, bal _ _⟩
  | true =>
    have H1 := Lib.hid h1
    clear h1
    cases h2 : pasB f.params with
    | false =>
      have H2 := Lib.hid h2
      have HE := Lib.hid (show fnB f = false by simp [fnB, h2])
      clear h2
      go_enter Tryd.func61, Tryd.ntmps61
      go_wp2_with fail
      refine (name_calls f.name hnm _ (HG.out.al _).kw).mono ?_
      rintro e w1 ⟨rfl, rfl⟩
      rw [H1.out]
      go_wp2_with fail
      refine (rightParams_calls f.params _ _ (HP.out.al _) (HG.out.al _)).mono ?_
      rintro e w2 ⟨rfl, hb⟩
      have HB2 := Lib.hid (after (bal w _) hb)
      clear hb
      rw [H2.out]
      go_wp2_with fail
      go_ret
      exact ⟨by rw [HE.out]; rfl, HB2.out⟩
    | true =>
      have H2 := Lib.hid h2
      clear h2
      by_cases h0 : f.result = 0
      · have e0 : (f.result == 0) = true := by simp [h0]
        have HE := Lib.hid (show fnB f = rightL f.body by simp [fnB, H1.out, H2.out, h0])
        clear h0
        go_enter Tryd.func61, Tryd.ntmps61
        go_wp2_with fail
        refine (name_calls f.name hnm _ (HG.out.al _).kw).mono ?_
        rintro e w1 ⟨rfl, rfl⟩
        rw [H1.out]
        go_wp2_with fail
        refine (rightParams_calls f.params _ _ (HP.out.al _) (HG.out.al _)).mono ?_
        rintro e w2 ⟨rfl, hb⟩
        have HB2 := Lib.hid (after (bal w _) hb)
        obtain ⟨d0, d1, d2, d3, d4⟩ := HX.out.keep hb (by simp)
        clear hb
        rw [H2.out]
        go_wp2_with fail
        refine (rightStmts_calls f.body _ _ (HB.out.up HB2.out) (HG.out.up HB2.out)).mono ?_
        rintro e w3 ⟨rfl, hb⟩
        have HB3 := Lib.hid (after HB2.out hb)
        clear hb
        go_wp2_with fail
        go_ret
        exact ⟨by rw [HE.out]; rfl, HB3.out⟩
      · have e0 : (f.result == 0) = false := by simpa using h0
        cases h3 : typB f.result with
        | false =>
          have H3 := Lib.hid h3
          have HE := Lib.hid (show fnB f = false by simp [fnB, h0, h3])
          clear h0 h3
          go_enter Tryd.func61, Tryd.ntmps61
          go_wp2_with fail
          refine (name_calls f.name hnm _ (HG.out.al _).kw).mono ?_
          rintro e w1 ⟨rfl, rfl⟩
          rw [H1.out]
          go_wp2_with fail
          refine (rightParams_calls f.params _ _ (HP.out.al _) (HG.out.al _)).mono ?_
          rintro e w2 ⟨rfl, hb⟩
          have HB2 := Lib.hid (after (bal w _) hb)
          obtain ⟨d0, d1, d2, d3, d4⟩ := HX.out.keep hb (by simp)
          clear hb
          rw [H2.out]
          go_wp2_with fail
          refine (varType_calls f.result _).mono ?_
          rintro e w1 ⟨rfl, rfl⟩
          rw [H3.out]
          go_wp2_with fail
          go_ret
          exact ⟨by rw [HE.out]; rfl, HB2.out⟩
        | true =>
          have H3 := Lib.hid h3
          have HE := Lib.hid (show fnB f = rightL f.body by simp [fnB, H1.out, H2.out, h3])
          clear h0 h3
          go_enter Tryd.func61, Tryd.ntmps61
          go_wp2_with fail
          refine (name_calls f.name hnm _ (HG.out.al _).kw).mono ?_
          rintro e w1 ⟨rfl, rfl⟩
          rw [H1.out]
          go_wp2_with fail
          refine (rightParams_calls f.params _ _ (HP.out.al _) (HG.out.al _)).mono ?_
          rintro e w2 ⟨rfl, hb⟩
          have HB2 := Lib.hid (after (bal w _) hb)
          obtain ⟨d0, d1, d2, d3, d4⟩ := HX.out.keep hb (by simp)
          clear hb
          rw [H2.out]
          go_wp2_with fail
          refine (varType_calls f.result _).mono ?_
          rintro e w1 ⟨rfl, rfl⟩
          rw [H3.out]
          go_wp2_with fail
          refine (rightStmts_calls f.body _ _ (HB.out.up HB2.out) (HG.out.up HB2.out)).mono ?_
          rintro e w3 ⟨rfl, hb⟩
          have HB3 := Lib.hid (after HB2.out hb)
          clear hb
          go_wp2_with fail
          go_ret
          exact ⟨by rw [HE.out]; rfl, HB3.out⟩

set_option maxRecDepth 100000 in
set_option maxHeartbeats 2000000 in
theorem rightFuncs_calls (l : List Fn) (v : Value) (w : World) (hl : FIn w w.heap.size l v) (hG : Glob w) :
    Calls Tryd.prog 52 #[v] w fun e w' => e = .returned (.bool (fnsB l)) ∧ Below w.heap.size w w' := by
  obtain ⟨A, c, rfl⟩ := hl.slice
  have hle := hl.le
  have HL := Lib.hid hl
  have HG := Lib.hid hG
  clear hl hG
  by_cases h8 : l.length ≤ 20
  · have h8' : ¬ (20 : Int) < (l.length : Int) := by omega
    have h8'' : decide (20 < l.length) = false := by simpa using h8
    go_enter Tryd.func52, Tryd.ntmps52
    go_wp2_with fail
    go_loopw [10] (fun i wr => ∃ n : Nat, n ≤ l.length ∧ i = .int .i64 n ∧ (l.take n).all fnB = true ∧ Below w.heap.size w wr) (fun i _ => l.length - (intOf i).toNat)
    case atStart => exact ⟨0, by omega, rfl, rfl, Below.refl _ _⟩
    case round =>
      obtain ⟨n, hn, rfl, ht, hbw⟩ := hrel
      have HT := Lib.hid ht
      have HW := Lib.hid hbw
      have hz := hbw.size
      clear ht hbw
      by_cases hlt : n < l.length
      · obtain ⟨b, o, vp, vb, hA, hbl, hof, hc, hp, hb⟩ := HL.out.at_ n hlt
        obtain ⟨a0, a1, a2, a3, a4⟩ := hc.keep (fun i => HW.out.cell (p := ⟨b, i, none⟩) hbl)
        obtain ⟨A1, c1, rfl⟩ := hp.slice
        obtain ⟨A2, c2, rfl⟩ := hb.slice
        have HP := Lib.hid (PR.up hp HW.out)
        have HB := Lib.hid (SIn.up hb HW.out)
        subst hA
        clear hc hp hb
        have HY := Lib.hid (all_snoc (f := fnB) hlt)
        have HN := Lib.hid (fun h : fnB l[n] = false => all_no hlt h)
        generalize l[n] = x at *
        have HBB := Lib.hid (HW.out.alloc hz (fO x (.slice A1 x.params.length c1) (.slice A2 x.body.length c2)))
        cases h1 : fnB x with
        | false =>
          have H1 := Lib.hid h1
          have HE := Lib.hid (show fnsB l = false by unfold fnsB; rw [HN.out h1]; simp)
          clear h1
          go_wp2_with fail
          refine (rightFunc_calls x hof _ _ _ (HP.out.al _) (HB.out.al _) ((HG.out.up HW.out).al _)).mono ?_
          rintro e w2 ⟨rfl, hb⟩
          have HB2 := Lib.hid (after HBB.out hb)
          clear hb
          rw [H1.out]
          go_wp2_with fail
          go_ret
          exact ⟨by rw [HE.out]; rfl, HB2.out⟩
        | true =>
          have H1 := Lib.hid h1
          clear h1
          go_wp2_with fail
          refine (rightFunc_calls x hof _ _ _ (HP.out.al _) (HB.out.al _) ((HG.out.up HW.out).al _)).mono ?_
          rintro e w2 ⟨rfl, hb⟩
          have HB2 := Lib.hid (after HBB.out hb)
          clear hb
          rw [H1.out]
          go_wp2_with fail
          go_roundw
          case rel => exact ⟨n + 1, by omega, by go_num, by rw [HY.out, HT.out, H1.out]; rfl, HB2.out⟩
          case measure => simp [intOf]; omega
      · obtain rfl : n = l.length := by omega
        have ht := HT.out
        rw [List.take_length] at ht
        have HE := Lib.hid (show fnsB l = true by simp [fnsB, ht, h8])
        clear ht
        go_wp2_with fail
        go_ret
        exact ⟨by rw [HE.out]; rfl, HW.out⟩
  · have h8' : (20 : Int) < (l.length : Int) := by omega
    have HE := Lib.hid (show fnsB l = false by simp [fnsB, h8])
    go_enter Tryd.func52, Tryd.ntmps52
    go_wp2_with fail
    go_ret
    exact ⟨by rw [HE.out]; rfl, Below.refl _ _⟩
end Go.Proofs.YthiilnhiihfknaaDoor
