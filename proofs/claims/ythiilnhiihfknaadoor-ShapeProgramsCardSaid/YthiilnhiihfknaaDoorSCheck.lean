/-
  numbered, Check: contracts.
-/
import Derived.Test.YthiilnhiihfknaaDoorSNumP
namespace Go.Proofs.YthiilnhiihfknaaDoor
open Go Go.RowKit

abbrev IntAt (w : World) (N : Nat) (n : Nat) : Prop := w.heap[N]? = some (.cells #[.int .i64 (n : Int)] 3 (0, 0))

theorem Fr.narrow {N S : Nat} {w a b : World} (h : Below w.heap.size w a) (k : Fr N S a b) (hN : w.heap.size ≤ N) : Fr S S w b :=
  ⟨k.os.trans h.os, k.tape.trans h.tape, k.output.trans h.output, Nat.le_trans h.size k.size, fun i hi h1 _ => (k.block i (Nat.lt_of_lt_of_le hi h.size) (by omega) h1).trans (h.block i hi)⟩
set_option maxHeartbeats 1000000 in
theorem visitB_calls (l : List St) (v : Value) (M S : Nat) (w : World) (hM : 2 < M) (hMS : M ≤ S) (hl : SIn w M l v) (hG : Glob w) (hS : IntAt w S 0) :
    Calls Tryd.prog 80 #[v, lookB S] w fun e w' => e = .returned (.bool (vis FB 20 l 0).isSome) ∧ Fr S S w w' ∧ ∀ n, vis FB 20 l 0 = some n → IntAt w' S n := by
  obtain ⟨A, c, rfl⟩ := hl.slice
  have hSw := lt_of_block hS
  have HL := Lib.hid hl
  have HG := Lib.hid hG
  have HS := Lib.hid hS
  clear hl hG hS
  go_enter Tryd.func80, Tryd.ntmps80
  go_wp2_with fail
  refine (visitB1_calls M (w.heap.size + 1) w.heap.size (w.heap.size + 2) S hM (by omega) (by omega) (by omega) (by omega) (by omega) hMS (by omega) (by omega) (by omega) 20 l _ 0 _ (by omega) (by omega) ?_ (HG.out.up (bal3 w _ _ _)) (blk2 w _ _ _) (blk1 w _ _ _) (blk3 w _ _ _) (((bal3 w _ _ _).block S hSw).trans HS.out)).mono ?_
  · exact HL.out.bel ((bal3 w _ _ _).mono (by omega))
  rintro e w2 ⟨rfl, hf, hn⟩
  have HF := Lib.hid (Fr.narrow (bal3 w _ _ _) hf (by omega))
  have HN := Lib.hid (fun n h => (hn n h).2)
  clear hf hn
  go_wp2_with fail
  go_ret
  exact ⟨rfl, HF.out, HN.out⟩

set_option maxRecDepth 100000 in
set_option maxHeartbeats 2000000 in
theorem numbered_calls (f : Fn) (vp vb : Value) (w : World) (hp : vp.oneCell' = true) (hB : SIn w w.heap.size f.body vb) (hG : Glob w) (hvp : ∃ A n c, vp = .slice A n c) :
    Calls Tryd.prog 57 #[fV f vp vb] w fun e w' => e = .returned (.bool (numbB f)) ∧ Below w.heap.size w w' := by
  obtain ⟨A1, n1, c1, rfl⟩ := hvp
  obtain ⟨A2, c2, rfl⟩ := hB.slice
  have HB := Lib.hid hB
  have HG := Lib.hid hG
  obtain ⟨b1, b2, b3⟩ := two w (fO f (.slice A1 n1 c1) (.slice A2 f.body.length c2)) (.cells #[.int .i64 0] 3)
  have HB1 := Lib.hid b1
  have HB2 := Lib.hid b2
  have HB3 := Lib.hid b3
  have h2 := hG.lt
  clear hB hG b1 b2 b3 hp
  go_enter Tryd.func57, Tryd.ntmps57
  go_wp2_with fail
  refine (visitB_calls f.body _ w.heap.size (w.heap.size + 1) _ h2 (by omega) (HB.out.bel (bal2 w _ _)) (HG.out.up (bal2 w _ _)) HB2.out).mono ?_
  rintro e w2 ⟨rfl, hf, hn⟩
  have HL := Lib.hid (Fr.low (bal2 w _ _) hf (by omega) (by omega))
  have X := BF.of (hf.heap HB1.out (by omega) (by omega))
  have q4 := (BF.at_ X).2.2.2.2
  clear hf X
  cases hv : vis FB 20 f.body 0 with
  | none =>
    have HE := Lib.hid (show numbB f = false by unfold numbB; rw [show vis (fun no s => decide (s.no = (no : Int))) 20 f.body 0 = none from hv])
    clear hv hn
    simp only [Option.isSome_none]
    go_wp2_with fail
    go_ret
    exact ⟨by rw [HE.out]; rfl, HL.out⟩
  | some n =>
    have HE := Lib.hid (show numbB f = decide (f.count = (n : Int)) by unfold numbB; rw [show vis (fun no s => decide (s.no = (no : Int))) 20 f.body 0 = some n from hv])
    have cS := cell_of_one (hn n hv)
    clear hv hn
    simp only [Option.isSome_some]
    by_cases hc : f.count = (n : Int)
    · have e1 : (f.count == (n : Int)) = true := by simpa using hc
      have HC := Lib.hid hc
      clear hc
      go_wp2_with fail
      go_ret
      exact ⟨by rw [HE.out, HC.out]; simp, HL.out⟩
    · have e1 : (f.count == (n : Int)) = false := by simpa using hc
      have HC := Lib.hid hc
      clear hc
      go_wp2_with fail
      go_ret
      exact ⟨by rw [HE.out]; simp [HC.out], HL.out⟩

set_option maxRecDepth 100000 in
set_option maxHeartbeats 2000000 in
theorem check_calls (l : List Fn) (v : Value) (w : World) (hl : FIn w w.heap.size l v) (hG : Glob w) :
    Calls Tryd.prog 24 #[.agg #[v]] w fun e w' => e = .returned (.int .i64 (errI (checkB l))) ∧ Below w.heap.size w w' := by
  obtain ⟨A, c, rfl⟩ := hl.slice
  have hle := hl.le
  have HL := Lib.hid hl
  have HG := Lib.hid hG
  have HX := Lib.hid (heap_alloc_new w (.cells #[.slice A l.length c] 35))
  clear hl hG
  cases hr : fnsB l with
  | false =>
    have HR := Lib.hid hr
    have HE := Lib.hid (show errI (checkB l) = 2 by simp [checkB, hr, errI])
    clear hr
    go_enter Tryd.func24, Tryd.ntmps24
    go_wp2_with fail
    refine (rightFuncs_calls l _ _ (HL.out.al _) (HG.out.al _)).mono ?_
    rintro e w1 ⟨rfl, hb⟩
    have HB := Lib.hid (after (bal w _) hb)
    clear hb
    rw [HR.out]
    go_wp2_with fail
    go_ret
    exact ⟨by rw [HE.out]; rfl, HB.out⟩
  | true =>
    have HR := Lib.hid hr
    have hl20 : l.length ≤ 20 := by simp only [fnsB, Bool.and_eq_true, decide_eq_true_eq] at hr; exact hr.1
    have HE := Lib.hid (show checkB l = l.all numbB by simp [checkB, hr])
    clear hr
    go_enter Tryd.func24, Tryd.ntmps24
    go_wp2_with fail
    refine (rightFuncs_calls l _ _ (HL.out.al _) (HG.out.al _)).mono ?_
    rintro e w1 ⟨rfl, hb⟩
    have HB := Lib.hid (after (bal w _) hb)
    have cX := cell_of_one ((hb.block w.heap.size (by simp)).trans HX.out)
    clear hb
    rw [HR.out]
    go_wp2_with fail
    go_loopw [12] (fun i wr => ∃ n : Nat, n ≤ l.length ∧ i = .int .i64 n ∧ (l.take n).all numbB = true ∧ Below w.heap.size w wr) (fun i _ => l.length - (intOf i).toNat)
    case atStart => exact ⟨0, by omega, rfl, rfl, HB.out⟩
    case round =>
      obtain ⟨n, hn, rfl, ht, hbw⟩ := hrel
      have HT := Lib.hid ht
      have HW := Lib.hid hbw
      have hz := hbw.size
      clear ht hbw
      by_cases hlt : n < l.length
      · obtain ⟨b, o, vp, vb, hA, hbl, hof, hc, hp, hb⟩ := HL.out.at_ n hlt
        obtain ⟨a0, a1, a2, a3, a4⟩ := hc.keep (fun i => HW.out.cell (p := ⟨b, i, none⟩) hbl)
        obtain ⟨A1, c1, rfl⟩ := hp.slice
        obtain ⟨A2, c2, rfl⟩ := hb.slice
        have HBd := Lib.hid (SIn.up hb HW.out)
        subst hA
        clear hc hp hb hof
        have HY := Lib.hid (all_snoc (f := numbB) hlt)
        have HN := Lib.hid (fun h : numbB l[n] = false => all_no hlt h)
        generalize l[n] = x at *
        have HBB := Lib.hid (HW.out.alloc hz (fO x (.slice A1 x.params.length c1) (.slice A2 x.body.length c2)))
        cases h1 : numbB x with
        | false =>
          have H1 := Lib.hid h1
          have HE2 := Lib.hid (show errI (checkB l) = 2 by rw [HE.out, HN.out h1]; rfl)
          clear h1
          go_wp2_with fail
          refine (numbered_calls x _ _ _ rfl (HBd.out.al _) ((HG.out.up HW.out).al _) ⟨_, _, _, rfl⟩).mono ?_
          rintro e w2 ⟨rfl, hb⟩
          have HB2 := Lib.hid (after HBB.out hb)
          clear hb
          rw [H1.out]
          go_wp2_with fail
          go_ret
          exact ⟨by rw [HE2.out]; rfl, HB2.out⟩
        | true =>
          have H1 := Lib.hid h1
          clear h1
          go_wp2_with fail
          refine (numbered_calls x _ _ _ rfl (HBd.out.al _) ((HG.out.up HW.out).al _) ⟨_, _, _, rfl⟩).mono ?_
          rintro e w2 ⟨rfl, hb⟩
          have HB2 := Lib.hid (after HBB.out hb)
          clear hb
          rw [H1.out]
          go_wp2_with fail
          go_roundw
          case rel => exact ⟨n + 1, by omega, by go_num, by rw [HY.out, HT.out, H1.out]; rfl, HB2.out⟩
          case measure => simp [intOf]; omega
      · obtain rfl : n = l.length := by omega
        have ht := HT.out
        rw [List.take_length] at ht
        have HE2 := Lib.hid (show errI (checkB l) = 0 by rw [HE.out, ht]; rfl)
        clear ht
        go_wp2_with fail
        go_ret
        exact ⟨by rw [HE2.out]; rfl, HW.out⟩
end Go.Proofs.YthiilnhiihfknaaDoor
