/-
  rightExprs, rightStmt: contracts. Written by gen3_head.py.
-/
import Derived.Test.YthiilnhiihfknaaDoorSDepth
namespace Go.Proofs.YthiilnhiihfknaaDoor
open Go Go.RowKit

theorem exsB_snoc {l : List Ex} {n : Nat} (h : n < l.length) : exsB (l.take (n + 1)) = (exsB (l.take n) && exB l[n]) := by
  unfold exsB
  rw [List.take_succ_eq_append_getElem h]
  simp only [List.all_append, List.all_cons, List.all_nil, Bool.and_true]
theorem exsB_no {l : List Ex} {n : Nat} (h : n < l.length) (he : exB l[n] = false) : exsB l = false := by
  unfold exsB
  rw [← Bool.not_eq_true, List.all_eq_true]
  intro hh
  rw [hh _ (List.getElem_mem h)] at he
  cases he

set_option maxHeartbeats 1000000 in
theorem rightExprs_calls (l : List Ex) (v : Value) (w : World) (hA : EIn w w.heap.size l v) (hG : Glob w) :
    Calls Tryd.prog 99 #[v] w fun r w' => r = .returned (.bool (exsB l)) ∧ Below w.heap.size w w' := by
  obtain ⟨A1, c1, rfl⟩ := hA.slice
  have l1 := hA.le
  have HA := Lib.hid hA
  have HG := Lib.hid hG
  clear hA hG
  go_enter Tryd.func99, Tryd.ntmps99
  go_wp2_with fail
  go_loopw [7] (fun i wr => ∃ n : Nat, n ≤ l.length ∧ i = .int .i64 n ∧ exsB (l.take n) = true ∧ Below w.heap.size w wr) (fun i _ => l.length - (intOf i).toNat)
  case atStart => exact ⟨0, by omega, rfl, rfl, Below.refl _ _⟩
  case round =>
    obtain ⟨n, hn, rfl, ht, hbw⟩ := hrel
    have HT := Lib.hid ht
    have HW := Lib.hid hbw
    clear ht hbw
    by_cases hlt : n < l.length
    · obtain ⟨b, o, v', hA, hbl, hoe, hc, hsub⟩ := (HA.out.at_).2 n hlt
      obtain ⟨a0, a1, a2, a3, a4⟩ := hc.keep (fun i => HW.out.cell (p := ⟨b, i, none⟩) hbl)
      obtain ⟨A', c', rfl⟩ := hsub.slice
      have HS := Lib.hid hsub
      subst hA
      clear hsub hc
      have hz := HW.out.size
      have HY := Lib.hid (exsB_snoc hlt)
      have HN := Lib.hid (fun h : exB l[n] = false => exsB_no hlt h)
      generalize l[n] = x at *
      have hbb := HW.out.alloc hz (eO x (.slice A' x.args.length c'))
      have HBB := Lib.hid hbb
      clear hbb
      by_cases h0 : dep 20 x = 0
      · have HE := Lib.hid (show exB x = false by simp [exB, h0])
        go_wp2_with fail
        refine (depth_calls x hoe _ _ ((HS.out.up HW.out).al _) ((HG.out.up HW.out).al _)).mono ?_
        rintro x' w2 ⟨rfl, hb⟩
        have HB2 := Lib.hid (after HBB.out hb)
        clear hb
        rw [h0]
        go_wp2_with fail
        go_ret
        exact ⟨by rw [HN.out HE.out]; rfl, HB2.out⟩
      · have h0' : (((dep 20 x : Nat) : Int) == 0) = false := by simpa using h0
        have HE := Lib.hid (show exB x = true by simp [exB, h0])
        go_wp2_with fail
        refine (depth_calls x hoe _ _ ((HS.out.up HW.out).al _) ((HG.out.up HW.out).al _)).mono ?_
        rintro x' w2 ⟨rfl, hb⟩
        have HB2 := Lib.hid (after HBB.out hb)
        clear hb
        go_wp2_with fail
        go_roundw
        case rel => exact ⟨n + 1, by omega, by go_num, by rw [HY.out, HT.out, HE.out]; rfl, HB2.out⟩
        case measure => simp [intOf]; omega
    · obtain rfl : n = l.length := by omega
      have ht := HT.out
      rw [List.take_length] at ht
      have HT := Lib.hid ht
      clear ht
      go_wp2_with fail
      go_ret
      exact ⟨by rw [HT.out]; rfl, HW.out⟩

theorem kRow (w : World) (o : Obj) (cs : Array Value) (i : Nat) (v : Value) (h : cs[i]? = some v) {T : TypeId} : ((w.alloc o).alloc (.cells cs T)).cell? ⟨w.heap.size + 1, i, none⟩ = some v := by
  have := newCell (w.alloc o) cs T i v h
  rwa [sz1] at this

set_option maxRecDepth 100000 in
set_option maxHeartbeats 20000000 in
theorem rightStmt_row (k : Nat) (hk1 : 1 ≤ k) (hk7 : k ≤ 10) (s : St) (hk : s.kind = (k : Int)) (va vb ve : Value) (r : SRow) (hr : skRows[k]? = some r) (ho : OkS s) (w : World) (hA : EIn w w.heap.size s.args va) (hB : SIn w w.heap.size s.body vb) (hE : SIn w w.heap.size s.els ve) (hG : Glob w) :
    Calls Tryd.prog 87 #[sV s va vb ve] w fun e w' => e = .returned (.bool (rowHead r s)) ∧ Below w.heap.size w w' := by
  obtain ⟨c0, c1, c2, c3, c4, c5, c6⟩ := hG.sk k r hr
  have hlt : 2 < w.heap.size := hG.lt
  obtain ⟨Aa, ca, rfl⟩ := hA.slice
  obtain ⟨Ab, cb, rfl⟩ := hB.slice
  obtain ⟨Ae, ce, rfl⟩ := hE.slice
  have l1 := hA.le
  have l2 := hB.le
  have l3 := hE.le
  have HG := Lib.hid hG
  have HA := Lib.hid hA
  clear hG hr hA hB hE
  by_cases h1 : howB s.name r.name = true
  · by_cases h2 : howB s.callee r.callee = true
    · cases h3 : r.typed with
      | true =>
        rw [h3] at c2
        by_cases h3b : typB s.typ = true
        · by_cases h4 : r.fewest ≤ s.args.length
          · have e4 : (r.fewest : Int) ≤ (s.args.length : Int) := by omega
            by_cases h5 : s.args.length ≤ r.most
            · have e5 : (s.args.length : Int) ≤ (r.most : Int) := by omega
              by_cases h6 : exsB s.args = true
              · cases h7 : r.body with
                | true =>
                  rw [h7] at c5
                  cases h8 : r.other with
                  | true =>
                    rw [h8] at c6
                    have F := Lib.hid (show rowHead r s = true by simp [rowHead, h1, h2, h3, h3b, h4, h5, h6, h7, h8])
                    go_enter Tryd.func87, Tryd.ntmps87
                    simp only [List.append_eq, List.cons_append, List.nil_append]
                    go_wp2_with fail
                    refine (fitsName_calls s.name r.name ho.name _ ((HG.out.al _).al _)).mono ?_
                    rintro e w1 ⟨rfl, rfl⟩
                    go_wp2_with fail
                    refine (fitsName_calls s.callee r.callee ho.callee _ ((HG.out.al _).al _)).mono ?_
                    rintro e w1 ⟨rfl, rfl⟩
                    go_wp2_with fail
                    refine (varType_calls s.typ _).mono ?_
                    rintro e w1 ⟨rfl, rfl⟩
                    go_wp2_with fail
                    refine (rightExprs_calls s.args _ _ ((HA.out.al _).al _) ((HG.out.al _).al _)).mono ?_
                    rintro e w2 ⟨rfl, hb⟩
                    have HB2 := Lib.hid (after (bal2 _ _ _) hb)
                    have s6 := (hb.cell (p := ⟨w.heap.size, 6, none⟩) (by simp; omega)).trans (((bal _ _).cell (p := ⟨w.heap.size, 6, none⟩) (by simp)).trans (newCell w _ _ 6 _ rfl))
                    have s7 := (hb.cell (p := ⟨w.heap.size, 7, none⟩) (by simp; omega)).trans (((bal _ _).cell (p := ⟨w.heap.size, 7, none⟩) (by simp)).trans (newCell w _ _ 7 _ rfl))
                    have r5 := (hb.cell (p := ⟨w.heap.size + 1, 5, none⟩) (by simp)).trans (kRow w _ _ 5 _ rfl)
                    have r6 := (hb.cell (p := ⟨w.heap.size + 1, 6, none⟩) (by simp)).trans (kRow w _ _ 6 _ rfl)
                    clear hb
                    go_wp2_with fail
                    go_ret
                    exact ⟨by rw [F.out]; rfl, HB2.out⟩
                  | false =>
                    rw [h8] at c6
                    by_cases h8b : s.els = []
                    · have e8 : ((s.els.length : Int) == 0) = true := by simp [h8b]
                      have F := Lib.hid (show rowHead r s = true by simp [rowHead, h1, h2, h3, h3b, h4, h5, h6, h7, h8, h8b])
                      go_enter Tryd.func87, Tryd.ntmps87
                      simp only [List.append_eq, List.cons_append, List.nil_append]
                      go_wp2_with fail
                      refine (fitsName_calls s.name r.name ho.name _ ((HG.out.al _).al _)).mono ?_
                      rintro e w1 ⟨rfl, rfl⟩
                      go_wp2_with fail
                      refine (fitsName_calls s.callee r.callee ho.callee _ ((HG.out.al _).al _)).mono ?_
                      rintro e w1 ⟨rfl, rfl⟩
                      go_wp2_with fail
                      refine (varType_calls s.typ _).mono ?_
                      rintro e w1 ⟨rfl, rfl⟩
                      go_wp2_with fail
                      refine (rightExprs_calls s.args _ _ ((HA.out.al _).al _) ((HG.out.al _).al _)).mono ?_
                      rintro e w2 ⟨rfl, hb⟩
                      have HB2 := Lib.hid (after (bal2 _ _ _) hb)
                      have s6 := (hb.cell (p := ⟨w.heap.size, 6, none⟩) (by simp; omega)).trans (((bal _ _).cell (p := ⟨w.heap.size, 6, none⟩) (by simp)).trans (newCell w _ _ 6 _ rfl))
                      have s7 := (hb.cell (p := ⟨w.heap.size, 7, none⟩) (by simp; omega)).trans (((bal _ _).cell (p := ⟨w.heap.size, 7, none⟩) (by simp)).trans (newCell w _ _ 7 _ rfl))
                      have r5 := (hb.cell (p := ⟨w.heap.size + 1, 5, none⟩) (by simp)).trans (kRow w _ _ 5 _ rfl)
                      have r6 := (hb.cell (p := ⟨w.heap.size + 1, 6, none⟩) (by simp)).trans (kRow w _ _ 6 _ rfl)
                      clear hb
                      go_wp2_with fail
                      go_ret
                      exact ⟨by rw [F.out]; rfl, HB2.out⟩
                    · have e8 : ((s.els.length : Int) == 0) = false := by simpa using h8b
                      have F := Lib.hid (show rowHead r s = false by simp [rowHead, h1, h2, h3, h3b, h4, h5, h6, h7, h8, h8b])
                      go_enter Tryd.func87, Tryd.ntmps87
                      simp only [List.append_eq, List.cons_append, List.nil_append]
                      go_wp2_with fail
                      refine (fitsName_calls s.name r.name ho.name _ ((HG.out.al _).al _)).mono ?_
                      rintro e w1 ⟨rfl, rfl⟩
                      go_wp2_with fail
                      refine (fitsName_calls s.callee r.callee ho.callee _ ((HG.out.al _).al _)).mono ?_
                      rintro e w1 ⟨rfl, rfl⟩
                      go_wp2_with fail
                      refine (varType_calls s.typ _).mono ?_
                      rintro e w1 ⟨rfl, rfl⟩
                      go_wp2_with fail
                      refine (rightExprs_calls s.args _ _ ((HA.out.al _).al _) ((HG.out.al _).al _)).mono ?_
                      rintro e w2 ⟨rfl, hb⟩
                      have HB2 := Lib.hid (after (bal2 _ _ _) hb)
                      have s6 := (hb.cell (p := ⟨w.heap.size, 6, none⟩) (by simp; omega)).trans (((bal _ _).cell (p := ⟨w.heap.size, 6, none⟩) (by simp)).trans (newCell w _ _ 6 _ rfl))
                      have s7 := (hb.cell (p := ⟨w.heap.size, 7, none⟩) (by simp; omega)).trans (((bal _ _).cell (p := ⟨w.heap.size, 7, none⟩) (by simp)).trans (newCell w _ _ 7 _ rfl))
                      have r5 := (hb.cell (p := ⟨w.heap.size + 1, 5, none⟩) (by simp)).trans (kRow w _ _ 5 _ rfl)
                      have r6 := (hb.cell (p := ⟨w.heap.size + 1, 6, none⟩) (by simp)).trans (kRow w _ _ 6 _ rfl)
                      clear hb
                      go_wp2_with fail
                      go_ret
                      exact ⟨by rw [F.out]; rfl, HB2.out⟩
                | false =>
                  rw [h7] at c5
                  by_cases h7b : s.body = []
                  · have e7 : ((s.body.length : Int) == 0) = true := by simp [h7b]
                    cases h8 : r.other with
                    | true =>
                      rw [h8] at c6
                      have F := Lib.hid (show rowHead r s = true by simp [rowHead, h1, h2, h3, h3b, h4, h5, h6, h7, h7b, h8])
                      go_enter Tryd.func87, Tryd.ntmps87
                      simp only [List.append_eq, List.cons_append, List.nil_append]
                      go_wp2_with fail
                      refine (fitsName_calls s.name r.name ho.name _ ((HG.out.al _).al _)).mono ?_
                      rintro e w1 ⟨rfl, rfl⟩
                      go_wp2_with fail
                      refine (fitsName_calls s.callee r.callee ho.callee _ ((HG.out.al _).al _)).mono ?_
                      rintro e w1 ⟨rfl, rfl⟩
                      go_wp2_with fail
                      refine (varType_calls s.typ _).mono ?_
                      rintro e w1 ⟨rfl, rfl⟩
                      go_wp2_with fail
                      refine (rightExprs_calls s.args _ _ ((HA.out.al _).al _) ((HG.out.al _).al _)).mono ?_
                      rintro e w2 ⟨rfl, hb⟩
                      have HB2 := Lib.hid (after (bal2 _ _ _) hb)
                      have s6 := (hb.cell (p := ⟨w.heap.size, 6, none⟩) (by simp; omega)).trans (((bal _ _).cell (p := ⟨w.heap.size, 6, none⟩) (by simp)).trans (newCell w _ _ 6 _ rfl))
                      have s7 := (hb.cell (p := ⟨w.heap.size, 7, none⟩) (by simp; omega)).trans (((bal _ _).cell (p := ⟨w.heap.size, 7, none⟩) (by simp)).trans (newCell w _ _ 7 _ rfl))
                      have r5 := (hb.cell (p := ⟨w.heap.size + 1, 5, none⟩) (by simp)).trans (kRow w _ _ 5 _ rfl)
                      have r6 := (hb.cell (p := ⟨w.heap.size + 1, 6, none⟩) (by simp)).trans (kRow w _ _ 6 _ rfl)
                      clear hb
                      go_wp2_with fail
                      go_ret
                      exact ⟨by rw [F.out]; rfl, HB2.out⟩
                    | false =>
                      rw [h8] at c6
                      by_cases h8b : s.els = []
                      · have e8 : ((s.els.length : Int) == 0) = true := by simp [h8b]
                        have F := Lib.hid (show rowHead r s = true by simp [rowHead, h1, h2, h3, h3b, h4, h5, h6, h7, h7b, h8, h8b])
                        go_enter Tryd.func87, Tryd.ntmps87
                        simp only [List.append_eq, List.cons_append, List.nil_append]
                        go_wp2_with fail
                        refine (fitsName_calls s.name r.name ho.name _ ((HG.out.al _).al _)).mono ?_
                        rintro e w1 ⟨rfl, rfl⟩
                        go_wp2_with fail
                        refine (fitsName_calls s.callee r.callee ho.callee _ ((HG.out.al _).al _)).mono ?_
                        rintro e w1 ⟨rfl, rfl⟩
                        go_wp2_with fail
                        refine (varType_calls s.typ _).mono ?_
                        rintro e w1 ⟨rfl, rfl⟩
                        go_wp2_with fail
                        refine (rightExprs_calls s.args _ _ ((HA.out.al _).al _) ((HG.out.al _).al _)).mono ?_
                        rintro e w2 ⟨rfl, hb⟩
                        have HB2 := Lib.hid (after (bal2 _ _ _) hb)
                        have s6 := (hb.cell (p := ⟨w.heap.size, 6, none⟩) (by simp; omega)).trans (((bal _ _).cell (p := ⟨w.heap.size, 6, none⟩) (by simp)).trans (newCell w _ _ 6 _ rfl))
                        have s7 := (hb.cell (p := ⟨w.heap.size, 7, none⟩) (by simp; omega)).trans (((bal _ _).cell (p := ⟨w.heap.size, 7, none⟩) (by simp)).trans (newCell w _ _ 7 _ rfl))
                        have r5 := (hb.cell (p := ⟨w.heap.size + 1, 5, none⟩) (by simp)).trans (kRow w _ _ 5 _ rfl)
                        have r6 := (hb.cell (p := ⟨w.heap.size + 1, 6, none⟩) (by simp)).trans (kRow w _ _ 6 _ rfl)
                        clear hb
                        go_wp2_with fail
                        go_ret
                        exact ⟨by rw [F.out]; rfl, HB2.out⟩
                      · have e8 : ((s.els.length : Int) == 0) = false := by simpa using h8b
                        have F := Lib.hid (show rowHead r s = false by simp [rowHead, h1, h2, h3, h3b, h4, h5, h6, h7, h7b, h8, h8b])
                        go_enter Tryd.func87, Tryd.ntmps87
                        simp only [List.append_eq, List.cons_append, List.nil_append]
                        go_wp2_with fail
                        refine (fitsName_calls s.name r.name ho.name _ ((HG.out.al _).al _)).mono ?_
                        rintro e w1 ⟨rfl, rfl⟩
                        go_wp2_with fail
                        refine (fitsName_calls s.callee r.callee ho.callee _ ((HG.out.al _).al _)).mono ?_
                        rintro e w1 ⟨rfl, rfl⟩
                        go_wp2_with fail
                        refine (varType_calls s.typ _).mono ?_
                        rintro e w1 ⟨rfl, rfl⟩
                        go_wp2_with fail
                        refine (rightExprs_calls s.args _ _ ((HA.out.al _).al _) ((HG.out.al _).al _)).mono ?_
                        rintro e w2 ⟨rfl, hb⟩
                        have HB2 := Lib.hid (after (bal2 _ _ _) hb)
                        have s6 := (hb.cell (p := ⟨w.heap.size, 6, none⟩) (by simp; omega)).trans (((bal _ _).cell (p := ⟨w.heap.size, 6, none⟩) (by simp)).trans (newCell w _ _ 6 _ rfl))
                        have s7 := (hb.cell (p := ⟨w.heap.size, 7, none⟩) (by simp; omega)).trans (((bal _ _).cell (p := ⟨w.heap.size, 7, none⟩) (by simp)).trans (newCell w _ _ 7 _ rfl))
                        have r5 := (hb.cell (p := ⟨w.heap.size + 1, 5, none⟩) (by simp)).trans (kRow w _ _ 5 _ rfl)
                        have r6 := (hb.cell (p := ⟨w.heap.size + 1, 6, none⟩) (by simp)).trans (kRow w _ _ 6 _ rfl)
                        clear hb
                        go_wp2_with fail
                        go_ret
                        exact ⟨by rw [F.out]; rfl, HB2.out⟩
                  · have e7 : ((s.body.length : Int) == 0) = false := by simpa using h7b
                    have F := Lib.hid (show rowHead r s = false by simp [rowHead, h1, h2, h3, h3b, h4, h5, h6, h7, h7b])
                    go_enter Tryd.func87, Tryd.ntmps87
                    simp only [List.append_eq, List.cons_append, List.nil_append]
                    go_wp2_with fail
                    refine (fitsName_calls s.name r.name ho.name _ ((HG.out.al _).al _)).mono ?_
                    rintro e w1 ⟨rfl, rfl⟩
                    go_wp2_with fail
                    refine (fitsName_calls s.callee r.callee ho.callee _ ((HG.out.al _).al _)).mono ?_
                    rintro e w1 ⟨rfl, rfl⟩
                    go_wp2_with fail
                    refine (varType_calls s.typ _).mono ?_
                    rintro e w1 ⟨rfl, rfl⟩
                    go_wp2_with fail
                    refine (rightExprs_calls s.args _ _ ((HA.out.al _).al _) ((HG.out.al _).al _)).mono ?_
                    rintro e w2 ⟨rfl, hb⟩
                    have HB2 := Lib.hid (after (bal2 _ _ _) hb)
                    have s6 := (hb.cell (p := ⟨w.heap.size, 6, none⟩) (by simp; omega)).trans (((bal _ _).cell (p := ⟨w.heap.size, 6, none⟩) (by simp)).trans (newCell w _ _ 6 _ rfl))
                    have s7 := (hb.cell (p := ⟨w.heap.size, 7, none⟩) (by simp; omega)).trans (((bal _ _).cell (p := ⟨w.heap.size, 7, none⟩) (by simp)).trans (newCell w _ _ 7 _ rfl))
                    have r5 := (hb.cell (p := ⟨w.heap.size + 1, 5, none⟩) (by simp)).trans (kRow w _ _ 5 _ rfl)
                    have r6 := (hb.cell (p := ⟨w.heap.size + 1, 6, none⟩) (by simp)).trans (kRow w _ _ 6 _ rfl)
                    clear hb
                    go_wp2_with fail
                    go_ret
                    exact ⟨by rw [F.out]; rfl, HB2.out⟩
              · simp only [Bool.not_eq_true] at h6
                have F := Lib.hid (show rowHead r s = false by simp [rowHead, h1, h2, h3, h3b, h4, h5, h6])
                go_enter Tryd.func87, Tryd.ntmps87
                simp only [List.append_eq, List.cons_append, List.nil_append]
                go_wp2_with fail
                refine (fitsName_calls s.name r.name ho.name _ ((HG.out.al _).al _)).mono ?_
                rintro e w1 ⟨rfl, rfl⟩
                go_wp2_with fail
                refine (fitsName_calls s.callee r.callee ho.callee _ ((HG.out.al _).al _)).mono ?_
                rintro e w1 ⟨rfl, rfl⟩
                go_wp2_with fail
                refine (varType_calls s.typ _).mono ?_
                rintro e w1 ⟨rfl, rfl⟩
                go_wp2_with fail
                refine (rightExprs_calls s.args _ _ ((HA.out.al _).al _) ((HG.out.al _).al _)).mono ?_
                rintro e w2 ⟨rfl, hb⟩
                have HB2 := Lib.hid (after (bal2 _ _ _) hb)
                have s6 := (hb.cell (p := ⟨w.heap.size, 6, none⟩) (by simp; omega)).trans (((bal _ _).cell (p := ⟨w.heap.size, 6, none⟩) (by simp)).trans (newCell w _ _ 6 _ rfl))
                have s7 := (hb.cell (p := ⟨w.heap.size, 7, none⟩) (by simp; omega)).trans (((bal _ _).cell (p := ⟨w.heap.size, 7, none⟩) (by simp)).trans (newCell w _ _ 7 _ rfl))
                have r5 := (hb.cell (p := ⟨w.heap.size + 1, 5, none⟩) (by simp)).trans (kRow w _ _ 5 _ rfl)
                have r6 := (hb.cell (p := ⟨w.heap.size + 1, 6, none⟩) (by simp)).trans (kRow w _ _ 6 _ rfl)
                clear hb
                go_wp2_with fail
                go_ret
                exact ⟨by rw [F.out]; rfl, HB2.out⟩
            · have e5 : ¬ (s.args.length : Int) ≤ (r.most : Int) := by omega
              have F := Lib.hid (show rowHead r s = false by simp [rowHead, h1, h2, h3, h3b, h4, h5])
              go_enter Tryd.func87, Tryd.ntmps87
              simp only [List.append_eq, List.cons_append, List.nil_append]
              go_wp2_with fail
              refine (fitsName_calls s.name r.name ho.name _ ((HG.out.al _).al _)).mono ?_
              rintro e w1 ⟨rfl, rfl⟩
              go_wp2_with fail
              refine (fitsName_calls s.callee r.callee ho.callee _ ((HG.out.al _).al _)).mono ?_
              rintro e w1 ⟨rfl, rfl⟩
              go_wp2_with fail
              refine (varType_calls s.typ _).mono ?_
              rintro e w1 ⟨rfl, rfl⟩
              go_wp2_with fail
              go_ret
              exact ⟨by rw [F.out]; rfl, (bal2 w _ _)⟩
          · have e4 : ¬ (r.fewest : Int) ≤ (s.args.length : Int) := by omega
            have F := Lib.hid (show rowHead r s = false by simp [rowHead, h1, h2, h3, h3b, h4])
            go_enter Tryd.func87, Tryd.ntmps87
            simp only [List.append_eq, List.cons_append, List.nil_append]
            go_wp2_with fail
            refine (fitsName_calls s.name r.name ho.name _ ((HG.out.al _).al _)).mono ?_
            rintro e w1 ⟨rfl, rfl⟩
            go_wp2_with fail
            refine (fitsName_calls s.callee r.callee ho.callee _ ((HG.out.al _).al _)).mono ?_
            rintro e w1 ⟨rfl, rfl⟩
            go_wp2_with fail
            refine (varType_calls s.typ _).mono ?_
            rintro e w1 ⟨rfl, rfl⟩
            go_wp2_with fail
            go_ret
            exact ⟨by rw [F.out]; rfl, (bal2 w _ _)⟩
        · simp only [Bool.not_eq_true] at h3b
          have F := Lib.hid (show rowHead r s = false by simp [rowHead, h1, h2, h3, h3b])
          go_enter Tryd.func87, Tryd.ntmps87
          simp only [List.append_eq, List.cons_append, List.nil_append]
          go_wp2_with fail
          refine (fitsName_calls s.name r.name ho.name _ ((HG.out.al _).al _)).mono ?_
          rintro e w1 ⟨rfl, rfl⟩
          go_wp2_with fail
          refine (fitsName_calls s.callee r.callee ho.callee _ ((HG.out.al _).al _)).mono ?_
          rintro e w1 ⟨rfl, rfl⟩
          go_wp2_with fail
          refine (varType_calls s.typ _).mono ?_
          rintro e w1 ⟨rfl, rfl⟩
          go_wp2_with fail
          go_ret
          exact ⟨by rw [F.out]; rfl, (bal2 w _ _)⟩
      | false =>
        rw [h3] at c2
        by_cases h3b : s.typ = 0
        · have e3 : (s.typ == 0) = true := by simp [h3b]
          by_cases h4 : r.fewest ≤ s.args.length
          · have e4 : (r.fewest : Int) ≤ (s.args.length : Int) := by omega
            by_cases h5 : s.args.length ≤ r.most
            · have e5 : (s.args.length : Int) ≤ (r.most : Int) := by omega
              by_cases h6 : exsB s.args = true
              · cases h7 : r.body with
                | true =>
                  rw [h7] at c5
                  cases h8 : r.other with
                  | true =>
                    rw [h8] at c6
                    have F := Lib.hid (show rowHead r s = true by simp [rowHead, h1, h2, h3, h3b, h4, h5, h6, h7, h8])
                    go_enter Tryd.func87, Tryd.ntmps87
                    simp only [List.append_eq, List.cons_append, List.nil_append]
                    go_wp2_with fail
                    refine (fitsName_calls s.name r.name ho.name _ ((HG.out.al _).al _)).mono ?_
                    rintro e w1 ⟨rfl, rfl⟩
                    go_wp2_with fail
                    refine (fitsName_calls s.callee r.callee ho.callee _ ((HG.out.al _).al _)).mono ?_
                    rintro e w1 ⟨rfl, rfl⟩
                    go_wp2_with fail
                    refine (rightExprs_calls s.args _ _ ((HA.out.al _).al _) ((HG.out.al _).al _)).mono ?_
                    rintro e w2 ⟨rfl, hb⟩
                    have HB2 := Lib.hid (after (bal2 _ _ _) hb)
                    have s6 := (hb.cell (p := ⟨w.heap.size, 6, none⟩) (by simp; omega)).trans (((bal _ _).cell (p := ⟨w.heap.size, 6, none⟩) (by simp)).trans (newCell w _ _ 6 _ rfl))
                    have s7 := (hb.cell (p := ⟨w.heap.size, 7, none⟩) (by simp; omega)).trans (((bal _ _).cell (p := ⟨w.heap.size, 7, none⟩) (by simp)).trans (newCell w _ _ 7 _ rfl))
                    have r5 := (hb.cell (p := ⟨w.heap.size + 1, 5, none⟩) (by simp)).trans (kRow w _ _ 5 _ rfl)
                    have r6 := (hb.cell (p := ⟨w.heap.size + 1, 6, none⟩) (by simp)).trans (kRow w _ _ 6 _ rfl)
                    clear hb
                    go_wp2_with fail
                    go_ret
                    exact ⟨by rw [F.out]; rfl, HB2.out⟩
                  | false =>
                    rw [h8] at c6
                    by_cases h8b : s.els = []
                    · have e8 : ((s.els.length : Int) == 0) = true := by simp [h8b]
                      have F := Lib.hid (show rowHead r s = true by simp [rowHead, h1, h2, h3, h3b, h4, h5, h6, h7, h8, h8b])
                      go_enter Tryd.func87, Tryd.ntmps87
                      simp only [List.append_eq, List.cons_append, List.nil_append]
                      go_wp2_with fail
                      refine (fitsName_calls s.name r.name ho.name _ ((HG.out.al _).al _)).mono ?_
                      rintro e w1 ⟨rfl, rfl⟩
                      go_wp2_with fail
                      refine (fitsName_calls s.callee r.callee ho.callee _ ((HG.out.al _).al _)).mono ?_
                      rintro e w1 ⟨rfl, rfl⟩
                      go_wp2_with fail
                      refine (rightExprs_calls s.args _ _ ((HA.out.al _).al _) ((HG.out.al _).al _)).mono ?_
                      rintro e w2 ⟨rfl, hb⟩
                      have HB2 := Lib.hid (after (bal2 _ _ _) hb)
                      have s6 := (hb.cell (p := ⟨w.heap.size, 6, none⟩) (by simp; omega)).trans (((bal _ _).cell (p := ⟨w.heap.size, 6, none⟩) (by simp)).trans (newCell w _ _ 6 _ rfl))
                      have s7 := (hb.cell (p := ⟨w.heap.size, 7, none⟩) (by simp; omega)).trans (((bal _ _).cell (p := ⟨w.heap.size, 7, none⟩) (by simp)).trans (newCell w _ _ 7 _ rfl))
                      have r5 := (hb.cell (p := ⟨w.heap.size + 1, 5, none⟩) (by simp)).trans (kRow w _ _ 5 _ rfl)
                      have r6 := (hb.cell (p := ⟨w.heap.size + 1, 6, none⟩) (by simp)).trans (kRow w _ _ 6 _ rfl)
                      clear hb
                      go_wp2_with fail
                      go_ret
                      exact ⟨by rw [F.out]; rfl, HB2.out⟩
                    · have e8 : ((s.els.length : Int) == 0) = false := by simpa using h8b
                      have F := Lib.hid (show rowHead r s = false by simp [rowHead, h1, h2, h3, h3b, h4, h5, h6, h7, h8, h8b])
                      go_enter Tryd.func87, Tryd.ntmps87
                      simp only [List.append_eq, List.cons_append, List.nil_append]
                      go_wp2_with fail
                      refine (fitsName_calls s.name r.name ho.name _ ((HG.out.al _).al _)).mono ?_
                      rintro e w1 ⟨rfl, rfl⟩
                      go_wp2_with fail
                      refine (fitsName_calls s.callee r.callee ho.callee _ ((HG.out.al _).al _)).mono ?_
                      rintro e w1 ⟨rfl, rfl⟩
                      go_wp2_with fail
                      refine (rightExprs_calls s.args _ _ ((HA.out.al _).al _) ((HG.out.al _).al _)).mono ?_
                      rintro e w2 ⟨rfl, hb⟩
                      have HB2 := Lib.hid (after (bal2 _ _ _) hb)
                      have s6 := (hb.cell (p := ⟨w.heap.size, 6, none⟩) (by simp; omega)).trans (((bal _ _).cell (p := ⟨w.heap.size, 6, none⟩) (by simp)).trans (newCell w _ _ 6 _ rfl))
                      have s7 := (hb.cell (p := ⟨w.heap.size, 7, none⟩) (by simp; omega)).trans (((bal _ _).cell (p := ⟨w.heap.size, 7, none⟩) (by simp)).trans (newCell w _ _ 7 _ rfl))
                      have r5 := (hb.cell (p := ⟨w.heap.size + 1, 5, none⟩) (by simp)).trans (kRow w _ _ 5 _ rfl)
                      have r6 := (hb.cell (p := ⟨w.heap.size + 1, 6, none⟩) (by simp)).trans (kRow w _ _ 6 _ rfl)
                      clear hb
                      go_wp2_with fail
                      go_ret
                      exact ⟨by rw [F.out]; rfl, HB2.out⟩
                | false =>
                  rw [h7] at c5
                  by_cases h7b : s.body = []
                  · have e7 : ((s.body.length : Int) == 0) = true := by simp [h7b]
                    cases h8 : r.other with
                    | true =>
                      rw [h8] at c6
                      have F := Lib.hid (show rowHead r s = true by simp [rowHead, h1, h2, h3, h3b, h4, h5, h6, h7, h7b, h8])
                      go_enter Tryd.func87, Tryd.ntmps87
                      simp only [List.append_eq, List.cons_append, List.nil_append]
                      go_wp2_with fail
                      refine (fitsName_calls s.name r.name ho.name _ ((HG.out.al _).al _)).mono ?_
                      rintro e w1 ⟨rfl, rfl⟩
                      go_wp2_with fail
                      refine (fitsName_calls s.callee r.callee ho.callee _ ((HG.out.al _).al _)).mono ?_
                      rintro e w1 ⟨rfl, rfl⟩
                      go_wp2_with fail
                      refine (rightExprs_calls s.args _ _ ((HA.out.al _).al _) ((HG.out.al _).al _)).mono ?_
                      rintro e w2 ⟨rfl, hb⟩
                      have HB2 := Lib.hid (after (bal2 _ _ _) hb)
                      have s6 := (hb.cell (p := ⟨w.heap.size, 6, none⟩) (by simp; omega)).trans (((bal _ _).cell (p := ⟨w.heap.size, 6, none⟩) (by simp)).trans (newCell w _ _ 6 _ rfl))
                      have s7 := (hb.cell (p := ⟨w.heap.size, 7, none⟩) (by simp; omega)).trans (((bal _ _).cell (p := ⟨w.heap.size, 7, none⟩) (by simp)).trans (newCell w _ _ 7 _ rfl))
                      have r5 := (hb.cell (p := ⟨w.heap.size + 1, 5, none⟩) (by simp)).trans (kRow w _ _ 5 _ rfl)
                      have r6 := (hb.cell (p := ⟨w.heap.size + 1, 6, none⟩) (by simp)).trans (kRow w _ _ 6 _ rfl)
                      clear hb
                      go_wp2_with fail
                      go_ret
                      exact ⟨by rw [F.out]; rfl, HB2.out⟩
                    | false =>
                      rw [h8] at c6
                      by_cases h8b : s.els = []
                      · have e8 : ((s.els.length : Int) == 0) = true := by simp [h8b]
                        have F := Lib.hid (show rowHead r s = true by simp [rowHead, h1, h2, h3, h3b, h4, h5, h6, h7, h7b, h8, h8b])
                        go_enter Tryd.func87, Tryd.ntmps87
                        simp only [List.append_eq, List.cons_append, List.nil_append]
                        go_wp2_with fail
                        refine (fitsName_calls s.name r.name ho.name _ ((HG.out.al _).al _)).mono ?_
                        rintro e w1 ⟨rfl, rfl⟩
                        go_wp2_with fail
                        refine (fitsName_calls s.callee r.callee ho.callee _ ((HG.out.al _).al _)).mono ?_
                        rintro e w1 ⟨rfl, rfl⟩
                        go_wp2_with fail
                        refine (rightExprs_calls s.args _ _ ((HA.out.al _).al _) ((HG.out.al _).al _)).mono ?_
                        rintro e w2 ⟨rfl, hb⟩
                        have HB2 := Lib.hid (after (bal2 _ _ _) hb)
                        have s6 := (hb.cell (p := ⟨w.heap.size, 6, none⟩) (by simp; omega)).trans (((bal _ _).cell (p := ⟨w.heap.size, 6, none⟩) (by simp)).trans (newCell w _ _ 6 _ rfl))
                        have s7 := (hb.cell (p := ⟨w.heap.size, 7, none⟩) (by simp; omega)).trans (((bal _ _).cell (p := ⟨w.heap.size, 7, none⟩) (by simp)).trans (newCell w _ _ 7 _ rfl))
                        have r5 := (hb.cell (p := ⟨w.heap.size + 1, 5, none⟩) (by simp)).trans (kRow w _ _ 5 _ rfl)
                        have r6 := (hb.cell (p := ⟨w.heap.size + 1, 6, none⟩) (by simp)).trans (kRow w _ _ 6 _ rfl)
                        clear hb
                        go_wp2_with fail
                        go_ret
                        exact ⟨by rw [F.out]; rfl, HB2.out⟩
                      · have e8 : ((s.els.length : Int) == 0) = false := by simpa using h8b
                        have F := Lib.hid (show rowHead r s = false by simp [rowHead, h1, h2, h3, h3b, h4, h5, h6, h7, h7b, h8, h8b])
                        go_enter Tryd.func87, Tryd.ntmps87
                        simp only [List.append_eq, List.cons_append, List.nil_append]
                        go_wp2_with fail
                        refine (fitsName_calls s.name r.name ho.name _ ((HG.out.al _).al _)).mono ?_
                        rintro e w1 ⟨rfl, rfl⟩
                        go_wp2_with fail
                        refine (fitsName_calls s.callee r.callee ho.callee _ ((HG.out.al _).al _)).mono ?_
                        rintro e w1 ⟨rfl, rfl⟩
                        go_wp2_with fail
                        refine (rightExprs_calls s.args _ _ ((HA.out.al _).al _) ((HG.out.al _).al _)).mono ?_
                        rintro e w2 ⟨rfl, hb⟩
                        have HB2 := Lib.hid (after (bal2 _ _ _) hb)
                        have s6 := (hb.cell (p := ⟨w.heap.size, 6, none⟩) (by simp; omega)).trans (((bal _ _).cell (p := ⟨w.heap.size, 6, none⟩) (by simp)).trans (newCell w _ _ 6 _ rfl))
                        have s7 := (hb.cell (p := ⟨w.heap.size, 7, none⟩) (by simp; omega)).trans (((bal _ _).cell (p := ⟨w.heap.size, 7, none⟩) (by simp)).trans (newCell w _ _ 7 _ rfl))
                        have r5 := (hb.cell (p := ⟨w.heap.size + 1, 5, none⟩) (by simp)).trans (kRow w _ _ 5 _ rfl)
                        have r6 := (hb.cell (p := ⟨w.heap.size + 1, 6, none⟩) (by simp)).trans (kRow w _ _ 6 _ rfl)
                        clear hb
                        go_wp2_with fail
                        go_ret
                        exact ⟨by rw [F.out]; rfl, HB2.out⟩
                  · have e7 : ((s.body.length : Int) == 0) = false := by simpa using h7b
                    have F := Lib.hid (show rowHead r s = false by simp [rowHead, h1, h2, h3, h3b, h4, h5, h6, h7, h7b])
                    go_enter Tryd.func87, Tryd.ntmps87
                    simp only [List.append_eq, List.cons_append, List.nil_append]
                    go_wp2_with fail
                    refine (fitsName_calls s.name r.name ho.name _ ((HG.out.al _).al _)).mono ?_
                    rintro e w1 ⟨rfl, rfl⟩
                    go_wp2_with fail
                    refine (fitsName_calls s.callee r.callee ho.callee _ ((HG.out.al _).al _)).mono ?_
                    rintro e w1 ⟨rfl, rfl⟩
                    go_wp2_with fail
                    refine (rightExprs_calls s.args _ _ ((HA.out.al _).al _) ((HG.out.al _).al _)).mono ?_
                    rintro e w2 ⟨rfl, hb⟩
                    have HB2 := Lib.hid (after (bal2 _ _ _) hb)
                    have s6 := (hb.cell (p := ⟨w.heap.size, 6, none⟩) (by simp; omega)).trans (((bal _ _).cell (p := ⟨w.heap.size, 6, none⟩) (by simp)).trans (newCell w _ _ 6 _ rfl))
                    have s7 := (hb.cell (p := ⟨w.heap.size, 7, none⟩) (by simp; omega)).trans (((bal _ _).cell (p := ⟨w.heap.size, 7, none⟩) (by simp)).trans (newCell w _ _ 7 _ rfl))
                    have r5 := (hb.cell (p := ⟨w.heap.size + 1, 5, none⟩) (by simp)).trans (kRow w _ _ 5 _ rfl)
                    have r6 := (hb.cell (p := ⟨w.heap.size + 1, 6, none⟩) (by simp)).trans (kRow w _ _ 6 _ rfl)
                    clear hb
                    go_wp2_with fail
                    go_ret
                    exact ⟨by rw [F.out]; rfl, HB2.out⟩
              · simp only [Bool.not_eq_true] at h6
                have F := Lib.hid (show rowHead r s = false by simp [rowHead, h1, h2, h3, h3b, h4, h5, h6])
                go_enter Tryd.func87, Tryd.ntmps87
                simp only [List.append_eq, List.cons_append, List.nil_append]
                go_wp2_with fail
                refine (fitsName_calls s.name r.name ho.name _ ((HG.out.al _).al _)).mono ?_
                rintro e w1 ⟨rfl, rfl⟩
                go_wp2_with fail
                refine (fitsName_calls s.callee r.callee ho.callee _ ((HG.out.al _).al _)).mono ?_
                rintro e w1 ⟨rfl, rfl⟩
                go_wp2_with fail
                refine (rightExprs_calls s.args _ _ ((HA.out.al _).al _) ((HG.out.al _).al _)).mono ?_
                rintro e w2 ⟨rfl, hb⟩
                have HB2 := Lib.hid (after (bal2 _ _ _) hb)
                have s6 := (hb.cell (p := ⟨w.heap.size, 6, none⟩) (by simp; omega)).trans (((bal _ _).cell (p := ⟨w.heap.size, 6, none⟩) (by simp)).trans (newCell w _ _ 6 _ rfl))
                have s7 := (hb.cell (p := ⟨w.heap.size, 7, none⟩) (by simp; omega)).trans (((bal _ _).cell (p := ⟨w.heap.size, 7, none⟩) (by simp)).trans (newCell w _ _ 7 _ rfl))
                have r5 := (hb.cell (p := ⟨w.heap.size + 1, 5, none⟩) (by simp)).trans (kRow w _ _ 5 _ rfl)
                have r6 := (hb.cell (p := ⟨w.heap.size + 1, 6, none⟩) (by simp)).trans (kRow w _ _ 6 _ rfl)
                clear hb
                go_wp2_with fail
                go_ret
                exact ⟨by rw [F.out]; rfl, HB2.out⟩
            · have e5 : ¬ (s.args.length : Int) ≤ (r.most : Int) := by omega
              have F := Lib.hid (show rowHead r s = false by simp [rowHead, h1, h2, h3, h3b, h4, h5])
              go_enter Tryd.func87, Tryd.ntmps87
              simp only [List.append_eq, List.cons_append, List.nil_append]
              go_wp2_with fail
              refine (fitsName_calls s.name r.name ho.name _ ((HG.out.al _).al _)).mono ?_
              rintro e w1 ⟨rfl, rfl⟩
              go_wp2_with fail
              refine (fitsName_calls s.callee r.callee ho.callee _ ((HG.out.al _).al _)).mono ?_
              rintro e w1 ⟨rfl, rfl⟩
              go_wp2_with fail
              go_ret
              exact ⟨by rw [F.out]; rfl, (bal2 w _ _)⟩
          · have e4 : ¬ (r.fewest : Int) ≤ (s.args.length : Int) := by omega
            have F := Lib.hid (show rowHead r s = false by simp [rowHead, h1, h2, h3, h3b, h4])
            go_enter Tryd.func87, Tryd.ntmps87
            simp only [List.append_eq, List.cons_append, List.nil_append]
            go_wp2_with fail
            refine (fitsName_calls s.name r.name ho.name _ ((HG.out.al _).al _)).mono ?_
            rintro e w1 ⟨rfl, rfl⟩
            go_wp2_with fail
            refine (fitsName_calls s.callee r.callee ho.callee _ ((HG.out.al _).al _)).mono ?_
            rintro e w1 ⟨rfl, rfl⟩
            go_wp2_with fail
            go_ret
            exact ⟨by rw [F.out]; rfl, (bal2 w _ _)⟩
        · have e3 : (s.typ == 0) = false := by simpa using h3b
          have F := Lib.hid (show rowHead r s = false by simp [rowHead, h1, h2, h3, h3b])
          go_enter Tryd.func87, Tryd.ntmps87
          simp only [List.append_eq, List.cons_append, List.nil_append]
          go_wp2_with fail
          refine (fitsName_calls s.name r.name ho.name _ ((HG.out.al _).al _)).mono ?_
          rintro e w1 ⟨rfl, rfl⟩
          go_wp2_with fail
          refine (fitsName_calls s.callee r.callee ho.callee _ ((HG.out.al _).al _)).mono ?_
          rintro e w1 ⟨rfl, rfl⟩
          go_wp2_with fail
          go_ret
          exact ⟨by rw [F.out]; rfl, (bal2 w _ _)⟩
    · simp only [Bool.not_eq_true] at h2
      have F := Lib.hid (show rowHead r s = false by simp [rowHead, h1, h2])
      go_enter Tryd.func87, Tryd.ntmps87
      simp only [List.append_eq, List.cons_append, List.nil_append]
      go_wp2_with fail
      refine (fitsName_calls s.name r.name ho.name _ ((HG.out.al _).al _)).mono ?_
      rintro e w1 ⟨rfl, rfl⟩
      go_wp2_with fail
      refine (fitsName_calls s.callee r.callee ho.callee _ ((HG.out.al _).al _)).mono ?_
      rintro e w1 ⟨rfl, rfl⟩
      go_wp2_with fail
      go_ret
      exact ⟨by rw [F.out]; rfl, (bal2 w _ _)⟩
  · simp only [Bool.not_eq_true] at h1
    have F := Lib.hid (show rowHead r s = false by simp [rowHead, h1])
    go_enter Tryd.func87, Tryd.ntmps87
    simp only [List.append_eq, List.cons_append, List.nil_append]
    go_wp2_with fail
    refine (fitsName_calls s.name r.name ho.name _ ((HG.out.al _).al _)).mono ?_
    rintro e w1 ⟨rfl, rfl⟩
    go_wp2_with fail
    go_ret
    exact ⟨by rw [F.out]; rfl, (bal2 w _ _)⟩

theorem stRow_sk {k : Nat} (h1 : 1 ≤ k) (h7 : k ≤ 10) : ∃ r, stRow (k : Int) = some r ∧ skRows[k]? = some r := by
  match k, h1, h7 with
  | 1, _, _ | 2, _, _ | 3, _, _ | 4, _, _ | 5, _, _ | 6, _, _ | 7, _, _ | 8, _, _ | 9, _, _ | 10, _, _ => exact ⟨_, rfl, rfl⟩
theorem stRow_none {k : Int} (h : k < 1 ∨ 10 < k) : stRow k = none := by
  unfold stRow
  rw [if_neg (by omega), if_neg (by omega), if_neg (by omega), if_neg (by omega), if_neg (by omega), if_neg (by omega), if_neg (by omega), if_neg (by omega), if_neg (by omega), if_neg (by omega)]
theorem rightStmt_calls (s : St) (va vb ve : Value) (ho : OkS s) (w : World) (hA : EIn w w.heap.size s.args va) (hB : SIn w w.heap.size s.body vb) (hE : SIn w w.heap.size s.els ve) (hG : Glob w) :
    Calls Tryd.prog 87 #[sV s va vb ve] w fun e w' => e = .returned (.bool (headB s)) ∧ Below w.heap.size w w' := by
  by_cases h : s.kind < 1 ∨ 10 < s.kind
  · have F := Lib.hid (show headB s = false by simp [headB, stRow_none h])
    obtain ⟨Aa, ca, rfl⟩ := hA.slice
    obtain ⟨Ab, cb, rfl⟩ := hB.slice
    obtain ⟨Ae, ce, rfl⟩ := hE.slice
    clear hA hB hE
    rcases h with h | h
    · go_enter Tryd.func87, Tryd.ntmps87
      go_wp2_with fail
      go_ret
      exact ⟨by rw [F.out]; rfl, bal _ _⟩
    · have h' : ¬ s.kind < 1 := by omega
      go_enter Tryd.func87, Tryd.ntmps87
      go_wp2_with fail
      go_ret
      exact ⟨by rw [F.out]; rfl, bal _ _⟩
  · obtain ⟨k, hk⟩ := Int.eq_ofNat_of_zero_le (show 0 ≤ s.kind by omega)
    obtain ⟨r, h1, h2⟩ := stRow_sk (k := k) (by omega) (by omega)
    rw [show headB s = rowHead r s by unfold headB; rw [hk, h1]]
    exact rightStmt_row k (by omega) (by omega) s hk va vb ve r h2 ho w hA hB hE hG
end Go.Proofs.YthiilnhiihfknaaDoor
