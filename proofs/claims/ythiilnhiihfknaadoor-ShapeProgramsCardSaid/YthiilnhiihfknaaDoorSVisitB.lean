/-
  visit with the look of numbered: contracts. Written by gen3_visit.py.
-/
import Derived.Test.YthiilnhiihfknaaDoorSVisitA
import Derived.Laws.EntriesVeiled
namespace Go.Proofs.YthiilnhiihfknaaDoor
open Go Go.RowKit

abbrev lookB (S : Nat) : Value := .func (.func 81) #[] #[.pointer (some ⟨S, 0, none⟩)]
set_option maxHeartbeats 1000000 in
theorem lookB_calls (n : Nat) (s : St) (va vb ve : Value) (w : World) (S : Nat) (m : Nat) (hm : m ≤ 1000) (hS : w.heap[S]? = some (.cells #[.int .i64 (m : Int)] 3 (0, 0))) (hA : EIn w w.heap.size s.args va) (hB : SIn w w.heap.size s.body vb) (hE : SIn w w.heap.size s.els ve) :
    Calls Tryd.prog 81 #[.int .i64 (n : Int), sV s va vb ve, .pointer (some ⟨S, 0, none⟩)] w fun e w' => e = .returned (.bool (FB n s)) ∧ Fr S S w w' ∧ w'.heap[S]? = some (.cells #[.int .i64 ((m + 1 : Nat) : Int)] 3 (0, 0)) := by
  obtain ⟨Aa, ca, rfl⟩ := hA.slice
  obtain ⟨Ab, cb, rfl⟩ := hB.slice
  obtain ⟨Ae, ce, rfl⟩ := hE.slice
  have hlt := lt_of_block hS
  have HX := Lib.hid ((SBox.new w s (.slice Aa s.args.length ca) (.slice Ab s.body.length cb) (.slice Ae s.els.length ce)).fr (N := S) (S := S) ((Fr.refl S S _).set (p := ⟨S, 0, none⟩) (.inl rfl) (.int .i64 ((m : Int) + 1))) (by simp) (by omega) (by omega))
  have h1 : ∀ o, (w.alloc o).heap[S]? = some (.cells #[.int .i64 (m : Int)] 3 (0, 0)) := fun o => ((bal w o).block S hlt).trans hS
  have hc := fun o => cell_of_one (h1 o)
  have hf := fun o => free_of_one (h1 o)
  have h2 := one_setCell (u := .int .i64 ((m : Int) + 1)) hS
  have H2 := Lib.hid h2
  clear hS h1 h2 hA hB hE
  obtain ⟨_, q1, _, _, _, _, _, _⟩ := HX.out
  go_enter Tryd.func81, Tryd.ntmps81
  go_wp2_with fail
  go_ret
  refine ⟨rfl, ((Fr.refl S S w).set (.inl rfl) _).alloc _, ?_⟩
  exact ((bal _ _).block S (by simpa [World.setCell] using hlt)).trans H2.out

set_option maxRecDepth 100000 in
set_option maxHeartbeats 8000000 in
theorem visitB1_calls (M N L K : Nat) (S : Nat) (hM : 2 < M) (hMN : M ≤ N) (_hML : M ≤ L) (_hMK : M ≤ K) (hNL : N ≠ L) (hNK : N ≠ K) (hMS : M ≤ S) (hNS : N ≠ S) (hLS : L ≠ S) (hKS : K ≠ S) (k : Nat) : ∀ (l : List St) (v : Value) (n0 : Nat) (w : World), k ≤ 20 → n0 ≤ 200 → SIn w M l v → Glob w →
    w.heap[N]? = some (.cells #[.int .i64 (n0 : Int)] 3 (0, 0)) → w.heap[L]? = some (.cells #[(lookB S)] 111 (0, 0)) → w.heap[K]? = some (.cells #[visF N L K] 127 (0, 0)) → w.heap[S]? = some (.cells #[.int .i64 (n0 : Int)] 3 (0, 0)) →
    Calls Tryd.prog 98 #[v, .int .i64 (k : Int), .pointer (some ⟨N, 0, none⟩), .pointer (some ⟨L, 0, none⟩), .pointer (some ⟨K, 0, none⟩)] w fun e w' => e = .returned (.bool (vis FB k l n0).isSome) ∧ Fr N S w w' ∧
      ∀ n, vis FB k l n0 = some n → w'.heap[N]? = some (.cells #[.int .i64 (n : Int)] 3 (0, 0)) ∧ w'.heap[S]? = some (.cells #[.int .i64 (n : Int)] 3 (0, 0)) := by
  induction k with
  | zero =>
    intro l v n0 w _ h0 hl hG hN hL hK hS
    obtain ⟨A, c, rfl⟩ := hl.slice
    have hle := hl.le
    rcases l with _ | ⟨s, l⟩
    · have HN := Lib.hid hN
      have HS := Lib.hid hS
      clear hN hL hK hl hG hS
      go_enter Tryd.func98, Tryd.ntmps98
      go_wp2_with fail
      refine wp_loop_rounds 1 ?_
      rw [rounds_succ]
      go_wp2_with fail
      go_ret
      exact ⟨rfl, Fr.refl _ _ _, fun n hn => by (obtain rfl : n0 = n := (by simpa [vis] using hn)); exact ⟨HN.out, HS.out⟩⟩
    · obtain ⟨b, o, va, vb, ve, hA, hbl, hoe, hc, h1, h2, h3⟩ := (hl.at_).2 0 (by simp)
      obtain ⟨A1, c1, rfl⟩ := h1.slice
      obtain ⟨A2, c2, rfl⟩ := h2.slice
      obtain ⟨A3, c3, rfl⟩ := h3.slice
      obtain ⟨a0, a1, a2, a3, a4, a5, a6, a7⟩ := hc
      simp only [List.getElem_cons_zero, Nat.zero_mul, Nat.add_zero] at a0 a1 a2 a3 a4 a5 a6 a7
      subst hA
      clear hN hL hK hl hG h1 h2 h3 hS
      go_enter Tryd.func98, Tryd.ntmps98
      go_wp2_with fail
      refine wp_loop_rounds 1 ?_
      rw [rounds_succ]
      go_wp2_with fail
      go_ret
      exact ⟨rfl, Fr.of (bal w _), fun n hn => by simp [vis] at hn⟩
  | succ k ih =>
    intro l v n0 w hk h0 hl hG hN hL hK hS
    have IH := Lib.hid ih
    obtain ⟨A, c, rfl⟩ := hl.slice
    have hle := hl.le
    have hMw : M < w.heap.size + 1 := by have := lt_of_block hN; omega
    have hNw := lt_of_block hN
    have hLw := lt_of_block hL
    have hKw := lt_of_block hK
    have hSw := lt_of_block hS
    have HL := Lib.hid hl
    have HG := Lib.hid hG
    have HN := Lib.hid hN
    have HLo := Lib.hid hL
    have HK := Lib.hid hK
    have HS := Lib.hid hS
    have hk0 : ((k : Int) + 1 == 0) = false := by simp; omega
    have hkb : (k : Int) ≤ 20 := by omega
    clear ih hl hG hN hL hK hS
    go_enter Tryd.func98, Tryd.ntmps98
    go_wp2_with fail
    go_loopw [12] (fun i wr => ∃ (j n : Nat), j ≤ l.length ∧ i = .int .i64 j ∧ n ≤ 200 ∧ (l.take j).foldlM (visS FB k) n0 = some n ∧ Fr N S w wr ∧ wr.heap[N]? = some (.cells #[.int .i64 (n : Int)] 3 (0, 0)) ∧ wr.heap[S]? = some (.cells #[.int .i64 (n : Int)] 3 (0, 0))) (fun i _ => l.length - (intOf i).toNat)
    case atStart => exact ⟨0, n0, by omega, rfl, h0, rfl, Fr.refl _ _ _, HN.out, HS.out⟩
    case round =>
      obtain ⟨j, n, hj, rfl, hn, hfold, hfr, hcN, hcS⟩ := hrel
      have HFO := Lib.hid hfold
      have HW := Lib.hid hfr
      have HcN := Lib.hid hcN
      have HcS := Lib.hid hcS
      have hz := hfr.size
      clear hfold hfr hcN hcS
      by_cases hlt : j < l.length
      · have hMb : Below M w wr := HW.out.below (by omega) hMN hMS
        obtain ⟨b, o, va, vb, ve, hA, hbl, hoe, hc, h1, h2, h3⟩ := (HL.out.at_).2 j hlt
        obtain ⟨a0, a1, a2, a3, a4, a5, a6, a7⟩ := hc.keep (fun i => hMb.cell (p := ⟨b, i, none⟩) hbl)
        obtain ⟨A1, c1, rfl⟩ := h1.slice
        obtain ⟨A2, c2, rfl⟩ := h2.slice
        obtain ⟨A3, c3, rfl⟩ := h3.slice
        have HBw := Lib.hid h2
        have HEw := Lib.hid h3
        have HA := Lib.hid (h1.bel hMb)
        have HB := Lib.hid (h2.bel hMb)
        have HE := Lib.hid (h3.bel hMb)
        have HGw := Lib.hid (HG.out.bel hM hMb)
        subst hA
        clear h1 h2 h3 hc hMb
        have HNX := Lib.hid (fun h : visS FB k n l[j] = none => fold_none hlt HFO.out h)
        have HSN := Lib.hid (show (l.take (j + 1)).foldlM (visS FB k) n0 = visS FB k n l[j] by rw [fold_snoc hlt, HFO.out]; rfl)
        generalize l[j] = s at *
        have hLw' : wr.heap[L]? = some (.cells #[(lookB S)] 111 (0, 0)) := HW.out.heap HLo.out (by omega) (by omega)
        have hKw' : wr.heap[K]? = some (.cells #[visF N L K] 127 (0, 0)) := HW.out.heap HK.out (by omega) (by omega)
        have HLw := Lib.hid hLw'
        have HKw := Lib.hid hKw'
        have cN := fun o => cell_of_one (((bal wr o).block N (by omega)).trans HcN.out)
        have cL := fun o => cell_of_one (((bal wr o).block L (by omega)).trans hLw')
        clear hLw' hKw'
        have HXB := Lib.hid (SBox.new wr s (.slice A1 s.args.length c1) (.slice A2 s.body.length c2) (.slice A3 s.els.length c3))
        by_cases h200 : n = 200
        · have HNO := Lib.hid (HNX.out (by unfold visS; rw [if_pos (.inl h200)]))
          subst h200
          go_wp2_with fail
          go_ret
          exact ⟨by rw [HNO.out]; rfl, HW.out.alloc _, fun n hn => by rw [HNO.out] at hn; cases hn⟩
        · have h200' : ((n : Int) == 200) = false := by simp; omega
          have hn1 : (n : Int) + 1 ≤ 200 := by omega
          cases hF : FB n s with
          | false =>
            have HFF := Lib.hid hF
            clear hF
            have HNO := Lib.hid (HNX.out (by unfold visS; rw [if_pos (.inr HFF.out)]))
            go_wp2_with fail
            refine (lookB_calls n s _ _ _ _ S n (by omega) (((bal wr _).block S (by omega)).trans HcS.out) ((HA.out.keep (by simp; omega) fun q i hq => (bal wr _).cell (p := ⟨q, i, none⟩) (show q < wr.heap.size by omega))) ((HB.out.keep (by simp; omega) fun q i hq => (bal wr _).cell (p := ⟨q, i, none⟩) (show q < wr.heap.size by omega))) ((HE.out.keep (by simp; omega) fun q i hq => (bal wr _).cell (p := ⟨q, i, none⟩) (show q < wr.heap.size by omega)))).mono ?_
            rintro e w2 ⟨rfl, hf2, hS2⟩
            have F2 : Fr N S (wr.alloc (sO s (.slice A1 s.args.length c1) (.slice A2 s.body.length c2) (.slice A3 s.els.length c3))) w2 := ⟨hf2.os, hf2.tape, hf2.output, hf2.size, fun q h1 _ h3 => hf2.block q h1 h3 h3⟩
            have HW2 := Lib.hid ((HW.out.alloc _).trans F2)
            clear hf2 F2 hS2
            rw [HFF.out]
            go_wp2_with fail
            go_ret
            exact ⟨by rw [HNO.out]; rfl, HW2.out, fun n hn => by rw [HNO.out] at hn; cases hn⟩
          | true =>
            have HFF := Lib.hid hF
            clear hF
            have HVS := Lib.hid (show visS FB k n s = (vis FB k s.body (n + 1)).bind fun m => vis FB k s.els m by unfold visS; rw [if_neg (by rw [HFF.out]; simp; omega)])
            go_wp2_with fail
            refine (lookB_calls n s _ _ _ _ S n (by omega) (((bal wr _).block S (by omega)).trans HcS.out) ((HA.out.keep (by simp; omega) fun q i hq => (bal wr _).cell (p := ⟨q, i, none⟩) (show q < wr.heap.size by omega))) ((HB.out.keep (by simp; omega) fun q i hq => (bal wr _).cell (p := ⟨q, i, none⟩) (show q < wr.heap.size by omega))) ((HE.out.keep (by simp; omega) fun q i hq => (bal wr _).cell (p := ⟨q, i, none⟩) (show q < wr.heap.size by omega)))).mono ?_
            rintro e w2 ⟨rfl, hf2, hS2⟩
            have F2 : Fr N S (wr.alloc (sO s (.slice A1 s.args.length c1) (.slice A2 s.body.length c2) (.slice A3 s.els.length c3))) w2 := ⟨hf2.os, hf2.tape, hf2.output, hf2.size, fun q h1 _ h3 => hf2.block q h1 h3 h3⟩
            have HW2 := Lib.hid ((HW.out.alloc _).trans F2)
            have hz2 : wr.heap.size + 1 ≤ w2.heap.size := by have := F2.size; simpa using this
            have HX2 := Lib.hid (HXB.out.fr F2 (by simp) (by omega) (by omega))
            have hN2 : w2.heap[N]? = some (.cells #[.int .i64 (n : Int)] 3 (0, 0)) := (hf2.block N (by simp; omega) hNS hNS).trans (((bal wr _).block N (by omega)).trans HcN.out)
            have cN2 := cell_of_one hN2
            have fN2 := free_of_one hN2
            have HN3 := Lib.hid (one_setCell (u := .int .i64 ((n + 1 : Nat) : Int)) hN2)
            have F3 : Fr N S w2 (w2.setCell ⟨N, 0, none⟩ (.int .i64 ((n : Int) + 1))) := (Fr.refl N S w2).set (.inl rfl) _
            have HW3 := Lib.hid (HW2.out.trans F3)
            have cK3 := cell_of_one (HW3.out.heap HK.out (by omega) (by omega))
            have q6 := (HX2.out.fr F3 (by omega) (by omega) (by omega)).c6
            have HX3 := Lib.hid (HX2.out.fr F3 (by omega) (by omega) (by omega))
            have HS3 := Lib.hid ((Below.heap_setCell w2 ⟨N, 0, none⟩ (.int .i64 ((n : Int) + 1)) S (by simpa using fun e => hNS e.symm)).trans hS2)
            clear hf2 F2 F3 hN2 hS2 cN cL
            rw [HFF.out]
            go_wp2_with fail
            have hMb3 : Below M w (w2.setCell ⟨N, 0, none⟩ (.int .i64 ((n : Int) + 1))) := HW3.out.below (by omega) hMN hMS
            have h1v := vis_bounds FB k s.body (n + 1)
            refine (IH.out s.body _ (n + 1) _ (by omega) (by omega) ?_ (HG.out.bel hM hMb3) HN3.out (HW3.out.heap HLo.out (by omega) (by omega)) (HW3.out.heap HK.out (by omega) (by omega)) HS3.out).mono ?_
            · exact (HBw.out).bel hMb3
            rintro e w4 ⟨rfl, hf4, hN4⟩
            have HW4 := Lib.hid (HW3.out.trans hf4)
            have hz4 := hf4.size
            have hz4' : w2.heap.size ≤ w4.heap.size := by simpa [World.setCell] using hz4
            have cK4 := cell_of_one (HW4.out.heap HK.out (by omega) (by omega))
            have HX4 := Lib.hid (HX3.out.fr hf4 (by simp [World.setCell]; omega) (by omega) (by omega))
            have q7 := HX4.out.c7
            have HN4 := Lib.hid hN4
            clear hf4 hN4 hz4 hMb3
            cases hv : vis FB k s.body (n + 1) with
            | none =>
              have HNO := Lib.hid (HNX.out (by rw [HVS.out, hv]; rfl))
              clear hv h1v
              simp only [Option.isSome_none]
              go_wp2_with fail
              go_ret
              exact ⟨by rw [HNO.out]; rfl, HW4.out, fun n hn => by rw [HNO.out] at hn; cases hn⟩
            | some m =>
              have HVm := Lib.hid hv
              have hmb := h1v m hv (by omega)
              clear hv h1v
              simp only [Option.isSome_some]
              go_wp2_with fail
              have hMb4 : Below M w w4 := HW4.out.below (by omega) hMN hMS
              have h2v := vis_bounds FB k s.els m
              refine (IH.out s.els _ m _ (by omega) (by omega) ((HEw.out).bel hMb4) (HG.out.bel hM hMb4) (HN4.out m HVm.out).1 (HW4.out.heap HLo.out (by omega) (by omega)) (HW4.out.heap HK.out (by omega) (by omega)) (HN4.out m HVm.out).2).mono ?_
              rintro e w5 ⟨rfl, hf5, hN5⟩
              have HW5 := Lib.hid (HW4.out.trans hf5)
              have HN5 := Lib.hid hN5
              clear hf5 hN5 hMb4
              cases hv : vis FB k s.els m with
              | none =>
                have HNO := Lib.hid (HNX.out (by rw [HVS.out, HVm.out]; exact hv))
                clear hv h2v
                simp only [Option.isSome_none]
                go_wp2_with fail
                go_ret
                exact ⟨by rw [HNO.out]; rfl, HW5.out, fun n hn => by rw [HNO.out] at hn; cases hn⟩
              | some p =>
                have HVp := Lib.hid hv
                have hpb := h2v p hv (by omega)
                have HFN := Lib.hid (show (l.take (j + 1)).foldlM (visS FB k) n0 = some p by rw [HSN.out, HVS.out, HVm.out]; exact hv)
                clear hv h2v
                simp only [Option.isSome_some]
                go_wp2_with fail
                go_roundw
                case rel => exact (by (repeat apply Exists.intro); exact ⟨⟨j + 1, p, by omega, by go_num, by omega, HFN.out, HW5.out, (HN5.out p HVp.out).1, (HN5.out p HVp.out).2⟩, rfl⟩)
                case measure => simp [intOf]; omega
      · obtain rfl : j = l.length := by omega
        have HD := Lib.hid (fold_done HFO.out)
        go_wp2_with fail
        go_ret
        exact ⟨by rw [HD.out]; rfl, HW.out, fun m hm => by rw [HD.out] at hm; cases hm; exact ⟨HcN.out, HcS.out⟩⟩
end Go.Proofs.YthiilnhiihfknaaDoor
