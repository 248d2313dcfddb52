/-
  number's closure: its contract.
-/
import Derived.Test.YtodicpnojcaanaaDoorSNumB
import Derived.Laws.EntriesVeiled
namespace Go.Proofs.YtodicpnojcaanaaDoor
open Go Go.RowKit

abbrev numF (N K : Nat) : Value := .func (.func 77) #[] #[.pointer (some ⟨N, 0, none⟩), .pointer (some ⟨K, 0, none⟩)]
abbrev IntAt (w : World) (N : Nat) (n : Nat) : Prop := w.heap[N]? = some (.cells #[.int .i64 (n : Int)] 3 (0, 0))
def NumR (N k : Nat) (l : List St) (n0 m : Nat) (w : World) (e : Ending) (w' : World) : Prop :=
  ∃ v, e = .returned v ∧ Fr N N w w' ∧ SR w' (Rn w.heap.size w'.heap.size) (numbL k l n0).1 v ∧ IntAt w' N m

set_option maxHeartbeats 1000000 in
theorem number1_nil (N K M k n0 : Nat) (A : Option Addr) (n c : Nat) (w : World) (hM : M ≤ w.heap.size) (h : SIn w M [] (.slice A n c)) (hN : IntAt w N n0) :
    Calls Tryd.prog 77 #[.slice A n c, .pointer (some ⟨N, 0, none⟩), .pointer (some ⟨K, 0, none⟩)] w (NumR N k [] n0 n0 w) := by
  obtain ⟨V, _, C⟩ := cloneS_list [] (by simp) A n c M w hM h
  have HC := Lib.hid C
  have HN := Lib.hid hN
  have he : (numbL k [] (n0 : Int)).1 = [] := by cases k <;> rfl
  have HE := Lib.hid he
  clear C h hN he
  go_enter Tryd.func77, Tryd.ntmps77
  go_wp2_with fail
  refine HC.out.mono ?_
  rintro e w1 ⟨hb, h⟩
  have HF := Lib.hid (Fr.of (N := N) (S := N) hb)
  have HN1 := Lib.hid ((hb.block N (lt_of_block HN.out)).trans HN.out)
  clear hb
  rcases h with ⟨_, A', c', rfl⟩ | ⟨g, cap, rfl, _, _⟩
  · go_wp2_with fail
    refine wp_loop_rounds 1 ?_
    rw [rounds_succ]
    go_wp2_with fail
    go_ret
    exact ⟨_, rfl, HF.out, by rw [HE.out]; exact SR.nil _ _, HN1.out⟩
  · rw [rowsS_len]
    go_wp2_with fail
    refine wp_loop_rounds 1 ?_
    rw [rounds_succ]
    go_wp2_with fail
    go_ret
    exact ⟨_, rfl, HF.out, by rw [HE.out]; exact SR.nil _ _, HN1.out⟩

set_option maxRecDepth 100000 in
set_option maxHeartbeats 8000000 in
theorem number1_calls (N K M : Nat) (hMN : M ≤ N) (_hMK : M ≤ K) (hNK : N ≠ K) (k : Nat) : ∀ (l : List St) (v : Value) (n0 m : Nat) (w : World), k ≤ 20 → n0 ≤ 200 → SIn w M l v → IntAt w N n0 →
    w.heap[K]? = some (.cells #[numF N K] 109 (0, 0)) → vis FA k l n0 = some m →
    Calls Tryd.prog 77 #[v, .pointer (some ⟨N, 0, none⟩), .pointer (some ⟨K, 0, none⟩)] w (NumR N k l n0 m w) := by
  induction k with
  | zero =>
    intro l v n0 m w _ h0 hl hN hK hv
    obtain ⟨A, c, rfl⟩ := hl.slice
    have h1 : l = [] := by unfold vis at hv; split at hv; assumption; cases hv
    subst h1
    have h2 : n0 = m := by simpa [vis] using hv
    subst h2
    exact number1_nil N K M 0 n0 A _ c w (by have := lt_of_block hN; omega) hl hN
  | succ k ih =>
    intro l v n0 m w hk h0 hl hN hK hv
    obtain ⟨A, c, rfl⟩ := hl.slice
    rcases Nat.eq_zero_or_pos l.length with hl0 | hl0
    · obtain rfl := List.eq_nil_of_length_eq_zero hl0
      have h2 : n0 = m := by simpa [vis] using hv
      subst h2
      exact number1_nil N K M (k + 1) n0 A _ c w (by have := lt_of_block hN; omega) hl hN
    · have hlen := vis_len FA (k + 1) l n0 m hv h0
      have hm200 := vis_bounds FA (k + 1) l n0 m hv h0
      have hNw := lt_of_block hN
      have hKw := lt_of_block hK
      have IH := Lib.hid ih
      obtain ⟨V0, hV0, C⟩ := cloneS_list l (by omega) A _ c M w (by omega) hl
      have HC := Lib.hid C
      have HV := Lib.hid hV0
      have HVS := Lib.hid (fun (i n : Nat) hi hf => vis_at hv h0 (i := i) (n := n) hi hf)
      have HVD := Lib.hid (show l.foldlM (visS FA k) n0 = some m by rw [← vis_succ]; exact hv)
      have HN := Lib.hid hN
      have HK := Lib.hid hK
      have HNE := Lib.hid (show rowsS l V0 ≠ [] from fun e => by have := rowsS_len l V0; rw [e] at this; simp at this; omega)
      clear ih C hl hV0 hv hN hK
      go_enter Tryd.func77, Tryd.ntmps77
      go_wp2_with fail
      refine HC.out.mono ?_
      rintro e w1 ⟨hb, h⟩
      rcases h with ⟨h, _⟩ | ⟨g, cap, rfl, hg, hr⟩
      · exact absurd h HNE.out
      have HI := Lib.hid (show CSI w N g cap k l V0 n0 0 w1 from ⟨V0, by rw [mid_zero]; exact hr, fun j e _ h => by omega, fun _ _ => rfl, Fr.of hb⟩)
      have HN1 := Lib.hid (show IntAt w1 N n0 from (hb.block N hNw).trans HN.out)
      have hgw := hr.lt
      have hgN : g ≠ N := by omega
      have hgK : g ≠ K := by omega
      have HG0 := Lib.hid hg
      rw [rowsS_len]
      clear hb hr
      go_wp2_with fail
      go_loopw [11] (fun c wr => ∃ (i n : Nat), i ≤ l.length ∧ c = .int .i64 i ∧ n ≤ 200 ∧ g < wr.heap.size ∧ (l.take i).foldlM (visS FA k) n0 = some n ∧ IntAt wr N n ∧ CSI w N g cap k l V0 n0 i wr) (fun c _ => l.length - (intOf c).toNat)
      case atStart => exact ⟨0, n0, by omega, rfl, h0, hgw, rfl, HN1.out, HI.out⟩
      case round =>
        obtain ⟨i, n, hi, rfl, hn, hgr, hfold, hcN, hinv⟩ := hrel
        have HJ := Lib.hid hinv
        have HFO := Lib.hid hfold
        have HcN := Lib.hid hcN
        clear hinv hgw hfold hcN
        by_cases hlt : i < l.length
        · have hrow : ∃ V, RowAt wr g 46 8 cap (rowsS (mid k l n0 i) V) ∧ V i = V0 i ∧ Fr N N w wr := by
            obtain ⟨V, h1, _, h3, h4⟩ := HJ.out
            exact ⟨V, h1, h3 i (Nat.le_refl _), h4⟩
          obtain ⟨V, h1, h3, h4⟩ := hrow
          have hge := rowsS_get (V := V) (show (mid k l n0 i)[i]? = some l[i] by rw [mid_ge (by omega) (Nat.le_refl _)]; exact List.getElem?_eq_getElem hlt)
          rw [h3] at hge
          have cc := fun (j : Nat) u hj => h1.cell (j := j) (u := u) hge hj
          have c0 := cc 0 _ rfl
          have c1 := cc 1 _ rfl
          have c2 := cc 2 _ rfl
          have c3 := cc 3 _ rfl
          have c4 := cc 4 _ rfl
          have c5 := cc 5 _ rfl
          have c6 := cc 6 _ rfl
          have c7 := cc 7 _ rfl
          rw [Nat.add_zero] at c0
          obtain ⟨hos, ha, hb, he⟩ := HV.out i _ (List.getElem?_eq_getElem hlt)
          obtain ⟨Aa, ca, hsa⟩ := ha.slice
          obtain ⟨Ab, cb, hsb⟩ := hb.slice
          obtain ⟨Ae, ce, hse⟩ := he.slice
          rw [hsa] at c5 ha
          rw [hsb] at c6 hb
          rw [hse] at c7 he
          have hz := h4.size
          have hMb : Below M w wr := h4.below (by omega) hMN hMN
          have HA := Lib.hid (ha.bel hMb)
          have HB := Lib.hid (hb.bel hMb)
          have HE := Lib.hid (he.bel hMb)
          have HR1 := Lib.hid h1
          have HF4 := Lib.hid h4
          have HOS := Lib.hid hos
          have hKr := h4.heap HK.out (by omega) (by omega)
          have HKr := Lib.hid hKr
          obtain ⟨a, b, hn200, hFn, hva, hvb, hfn, ha2, hb2⟩ := HVS.out i n hlt HFO.out
          have HFA := Lib.hid (headB_args hFn)
          have HVA := Lib.hid hva
          have HVB := Lib.hid hvb
          have HFN := Lib.hid hfn
          have HPN := Lib.hid (pre_vis FA k l i n0 n HFO.out)
          have HST := Lib.hid (fun w7 va vb ve hf hN => HJ.out.step (w7 := w7) (va := va) (vb := vb) (ve := ve) HG0.out hgN hNw hlt hf hN)
          have HMI := Lib.hid (show (mid k l n0 i)[i]? = some l[i] by rw [mid_ge (by omega) (Nat.le_refl _)]; exact List.getElem?_eq_getElem hlt)
          have hcN := cell_of_one HcN.out
          have hfN := free_of_one HcN.out
          clear cc hge h1 h3 hsa hsb hse ha hb he h4 hMb hKr hva hvb hfn hos hFn
          generalize l[i] = s at *
          have hni : (n : Int) + 1 ≤ 200 := by omega
          have hNr : N < wr.heap.size := by omega
          have hKrs : K < wr.heap.size := by omega
          have hbx : wr.heap.size ≠ N := by omega
          have hMr : M ≤ wr.heap.size := by omega
          have F0 : Fr N N wr ((wr.setCell ⟨N, 0, none⟩ (.int .i64 ((n : Int) + 1))).alloc (sO { s with no := (n : Int) } (.slice Aa s.args.length ca) (.slice Ab s.body.length cb) (.slice Ae s.els.length ce))) := ((Fr.refl N N wr).set (.inl rfl) _).alloc _
          have X0 : BX ((wr.setCell ⟨N, 0, none⟩ (.int .i64 ((n : Int) + 1))).alloc (sO { s with no := (n : Int) } (.slice Aa s.args.length ca) (.slice Ab s.body.length cb) (.slice Ae s.els.length ce))) wr.heap.size { s with no := (n : Int) } (.slice Aa s.args.length ca) (.slice Ab s.body.length cb) (.slice Ae s.els.length ce) := by
            have := BX.new (wr.setCell ⟨N, 0, none⟩ (.int .i64 ((n : Int) + 1))) { s with no := (n : Int) } (.slice Aa s.args.length ca) (.slice Ab s.body.length cb) (.slice Ae s.els.length ce)
            rwa [size_set] at this
          have N0 : IntAt ((wr.setCell ⟨N, 0, none⟩ (.int .i64 ((n : Int) + 1))).alloc (sO { s with no := (n : Int) } (.slice Aa s.args.length ca) (.slice Ab s.body.length cb) (.slice Ae s.els.length ce))) N (n + 1) :=
            ((bal _ _).block N (by rw [size_set]; exact hNr)).trans (one_setCell HcN.out)
          have Z0 : ((wr.setCell ⟨N, 0, none⟩ (.int .i64 ((n : Int) + 1))).alloc (sO { s with no := (n : Int) } (.slice Aa s.args.length ca) (.slice Ab s.body.length cb) (.slice Ae s.els.length ce))).heap.size = wr.heap.size + 1 := by rw [sz1, size_set]
          have A0 := (HA.out.bel (F0.below hMr hMN hMN)).keep (M' := wr.heap.size + 1) (by omega) fun _ _ _ => rfl
          have HF0 := Lib.hid F0
          have HX0 := Lib.hid X0
          have HN0 := Lib.hid N0
          have HZ0 := Lib.hid Z0
          have HA0 := Lib.hid A0
          clear F0 X0 N0 Z0 A0
          go_wp2_with fail
          refine (cloneExprs_calls 20 s.args _ _ (by have := HFA.out.1; omega) HFA.out.2 ?_).mono ?_
          · show EIn _ (((wr.setCell ⟨N, 0, none⟩ (.int .i64 ((n : Int) + 1))).alloc (sO { s with no := (n : Int) } (.slice Aa s.args.length ca) (.slice Ab s.body.length cb) (.slice Ae s.els.length ce))).heap.size) _ _
            rw [HZ0.out]
            exact HA0.out
          rintro e w2 ⟨v5, rfl, hb5, hE5⟩
          obtain ⟨A5, c5', rfl⟩ := hE5.slice
          have F2 : Fr N N wr w2 := HF0.out.trans (Fr.of hb5)
          have X2 : BX w2 wr.heap.size { s with no := (n : Int) } (.slice Aa s.args.length ca) (.slice Ab s.body.length cb) (.slice Ae s.els.length ce) := HX0.out.bel hb5 (by rw [HZ0.out]; omega)
          have N2 : IntAt w2 N (n + 1) := (hb5.block N (by rw [HZ0.out]; omega)).trans HN0.out
          have hz2 : wr.heap.size < w2.heap.size := by have := hb5.size; rw [HZ0.out] at this; omega
          have hE5' : ER w2 (fun b => wr.heap.size < b ∧ b < w2.heap.size) s.args (.slice A5 s.args.length c5') := hE5.keep (fun b hb => ⟨by have := hb.1; rw [HZ0.out] at this; omega, hb.2⟩) fun _ _ _ => rfl
          have F3 : Fr N N wr (w2.setCell ⟨wr.heap.size, 5, none⟩ (.slice A5 s.args.length c5')) := F2.setNew (p := ⟨wr.heap.size, 5, none⟩) (Nat.le_refl _) _
          have X3 := X2.set5 (.slice A5 s.args.length c5')
          have N3 : IntAt (w2.setCell ⟨wr.heap.size, 5, none⟩ (.slice A5 s.args.length c5')) N (n + 1) := (Below.heap_setCell w2 ⟨wr.heap.size, 5, none⟩ _ N (fun e => hbx e.symm)).trans N2
          have K3 := F3.heap HKr.out (by omega) (by omega)
          have cK3 := cell_of_one K3
          have q5 := X2.at_.c5
          have f5 := X2.free 5
          have q6 := X3.at_.c6
          have HF3 := Lib.hid F3
          have HX3 := Lib.hid X3
          have HN3 := Lib.hid N3
          have HK3 := Lib.hid K3
          have HE5 := Lib.hid hE5'
          clear hb5 hE5 F2 X2 N2 hE5' F3 X3 N3 K3 c0 c1 c2 c3 c4 c5 c6 c7 hcN hfN
          go_wp2_with fail
          refine (IH.out s.body _ (n + 1) a _ (by omega) (by omega) ((HB.out.bel (HF3.out.below hMr hMN hMN))) HN3.out HK3.out HVA.out).mono ?_
          rintro e w4 ⟨v6, rfl, F4, hS6, N4⟩
          obtain ⟨A6, c6', rfl⟩ := hS6.slice
          have hz4 : w2.heap.size ≤ w4.heap.size := by have := F4.size; rw [size_set] at this; exact this
          have X4 : BX w4 wr.heap.size { s with no := (n : Int) } (.slice A5 s.args.length c5') (.slice Ab s.body.length cb) (.slice Ae s.els.length ce) := HX3.out.fr F4 hbx hbx
          have E4 : ER w4 (fun b => wr.heap.size < b ∧ b < w4.heap.size) s.args (.slice A5 s.args.length c5') := HE5.out.keep (fun b hb => ⟨hb.1, by have := hb.2; omega⟩) fun b q hb => (F4.cell (by rw [size_set]; exact hb.2) (by have := hb.1; omega) (by have := hb.1; omega)).trans (World.cell?_of_block (w := w2) (Below.heap_setCell w2 _ _ b (by have := hb.1; show b ≠ wr.heap.size; omega)))
          have S4 : SR w4 (fun b => wr.heap.size < b ∧ b < w4.heap.size) (numbL k s.body ((n + 1 : Nat) : Int)).1 (.slice A6 (numbL k s.body ((n + 1 : Nat) : Int)).1.length c6') := hS6.keep (fun b hb => ⟨by have := hb.1; rw [size_set] at this; omega, hb.2⟩) fun _ _ _ => rfl
          have F4' := HF3.out.trans F4
          have F5 : Fr N N wr (w4.setCell ⟨wr.heap.size, 6, none⟩ (.slice A6 (numbL k s.body ((n + 1 : Nat) : Int)).1.length c6')) := F4'.setNew (p := ⟨wr.heap.size, 6, none⟩) (Nat.le_refl _) _
          have X5 := X4.set6 (.slice A6 (numbL k s.body ((n + 1 : Nat) : Int)).1.length c6')
          have N5 : IntAt (w4.setCell ⟨wr.heap.size, 6, none⟩ (.slice A6 (numbL k s.body ((n + 1 : Nat) : Int)).1.length c6')) N a := (Below.heap_setCell w4 ⟨wr.heap.size, 6, none⟩ _ N (fun e => hbx e.symm)).trans N4
          have K5 := F5.heap HKr.out (by omega) (by omega)
          have cK5 := cell_of_one K5
          have q6' := X4.at_.c6
          have f6 := X4.free 6
          have q7 := X5.at_.c7
          have HF5 := Lib.hid F5
          have HX5 := Lib.hid X5
          have HN5 := Lib.hid N5
          have HK5 := Lib.hid K5
          have HE4 := Lib.hid E4
          have HS4 := Lib.hid S4
          generalize (numbL k s.body ((n + 1 : Nat) : Int)).1.length = len6 at *
          clear hS6 F4 N4 X4 E4 S4 F4' F5 X5 N5 K5 cK3 q5 f5 q6
          go_wp2_with fail
          refine (IH.out s.els _ a b _ (by omega) (by omega) ((HE.out.bel (HF5.out.below hMr hMN hMN))) HN5.out HK5.out HVB.out).mono ?_
          rintro e w6 ⟨v7, rfl, F6, hS7, N6⟩
          obtain ⟨A7, c7', rfl⟩ := hS7.slice
          have hz6 : w4.heap.size ≤ w6.heap.size := by have := F6.size; rw [size_set] at this; exact this
          have hc46 : ∀ b q, wr.heap.size < b ∧ b < w4.heap.size → w6.cell? ⟨b, q, none⟩ = w4.cell? ⟨b, q, none⟩ := fun b q hb => (F6.cell (by rw [size_set]; exact hb.2) (by have := hb.1; omega) (by have := hb.1; omega)).trans (World.cell?_of_block (w := w4) (Below.heap_setCell w4 _ _ b (by have := hb.1; show b ≠ wr.heap.size; omega)))
          have hc67 : ∀ b q, wr.heap.size < b → (w6.setCell ⟨wr.heap.size, 7, none⟩ (.slice A7 (numbL k s.els (a : Int)).1.length c7')).cell? ⟨b, q, none⟩ = w6.cell? ⟨b, q, none⟩ := fun b q hb => World.cell?_of_block (w := w6) (Below.heap_setCell w6 _ _ b (by show b ≠ wr.heap.size; omega))
          have X6 := HX5.out.fr F6 hbx hbx
          have X7 := BX.set7 X6 (.slice A7 (numbL k s.els (a : Int)).1.length c7')
          have F7 : Fr N N wr (w6.setCell ⟨wr.heap.size, 7, none⟩ (.slice A7 (numbL k s.els (a : Int)).1.length c7')) := (HF5.out.trans F6).setNew (p := ⟨wr.heap.size, 7, none⟩) (Nat.le_refl _) _
          have N7 : IntAt (w6.setCell ⟨wr.heap.size, 7, none⟩ (.slice A7 (numbL k s.els (a : Int)).1.length c7')) N b := (Below.heap_setCell w6 ⟨wr.heap.size, 7, none⟩ _ N (fun e => hbx e.symm)).trans N6
          have eb : (numbL k s.body ((n : Int) + 1)) = numbL k s.body ((n + 1 : Nat) : Int) := by rw [show ((n : Int) + 1) = ((n + 1 : Nat) : Int) by omega]
          have ea : (numbL k s.body ((n + 1 : Nat) : Int)).2 = a := numb_vis FA k s.body (n + 1) a HVA.out
          have hnew : New (w6.setCell ⟨wr.heap.size, 7, none⟩ (.slice A7 (numbL k s.els (a : Int)).1.length c7')) (fun b => wr.heap.size < b ∧ b < (w6.setCell ⟨wr.heap.size, 7, none⟩ (.slice A7 (numbL k s.els (a : Int)).1.length c7')).heap.size) (numbSt k (n : Int) s) (.slice A5 s.args.length c5') (.slice A6 len6 c6') (.slice A7 (numbL k s.els (a : Int)).1.length c7') := by
            refine ⟨⟨HOS.out.kind, by show okI (n : Int); unfold okI; omega, HOS.out.typ, HOS.out.name, HOS.out.callee⟩, ?_, ?_, ?_⟩
            · exact HE4.out.keep (fun b hb => ⟨hb.1, by rw [size_set]; have := hb.2; omega⟩) fun b q hb => (hc67 b q hb.1).trans (hc46 b q hb)
            · show SR _ _ (numbL k s.body ((n : Int) + 1)).1 _
              rw [eb]
              exact HS4.out.keep (fun b hb => ⟨hb.1, by rw [size_set]; have := hb.2; omega⟩) fun b q hb => (hc67 b q hb.1).trans (hc46 b q hb)
            · show SR _ _ (numbL k s.els (numbL k s.body ((n : Int) + 1)).2).1 _
              rw [eb, ea]
              exact hS7.keep (fun b hb => ⟨by have := hb.1; rw [size_set] at this; omega, by rw [size_set]; exact hb.2⟩) fun b q hb => hc67 b q (by have := hb.1; rw [size_set] at this; omega)
          have hst := HST.out _ _ _ _ F7 (by rw [HPN.out]; exact hnew)
          rw [HPN.out] at hst
          have R7 := HR1.out.fr F7 hgN hgN
          have hge7 := rowsS_get (V := V) (show (mid k l n0 i)[i]? = some s from HMI.out)
          have cc := fun (j : Nat) u hj => R7.cell (j := j) (u := u) hge7 hj
          have d0 := cc 0 _ rfl
          have d1 := cc 1 _ rfl
          have d2 := cc 2 _ rfl
          have d3 := cc 3 _ rfl
          have d4 := cc 4 _ rfl
          have d5 := cc 5 _ rfl
          have d6 := cc 6 _ rfl
          have d7 := cc 7 _ rfl
          rw [Nat.add_zero] at d0
          have fg := R7.free
          obtain ⟨r0, r1, r2, r3, r4, r5, r6, r7⟩ := BX.at_ X7
          simp only at r0 r1 r2 r3 r4
          have q7' := (BX.at_ X6).c7
          have f7 := X6.free 7
          have HSTf := Lib.hid hst
          have HNf := Lib.hid ((store8_heap (w6.setCell ⟨wr.heap.size, 7, none⟩ (.slice A7 (numbL k s.els (a : Int)).1.length c7')) g i (numbSt k (n : Int) s) (.slice A5 s.args.length c5') (.slice A6 len6 c6') (.slice A7 (numbL k s.els (a : Int)).1.length c7') (b := N) (fun e => hgN e.symm)).trans N7)
          have hgf : g < w6.heap.size := by have := F7.size; rw [size_set] at this; omega
          clear cc hge7 R7 hst hnew ea eb N7 F7 X7 X6 hc67 hc46 hS7 F6 N6 cK5 q6' f6 q7
          generalize (numbL k s.els (a : Int)).1.length = len7 at *
          go_wp2_with fail
          go_roundw
          case rel => exact ⟨i + 1, b, by omega, by go_num, hb2, by simp only [size_set]; exact hgf, HFN.out, HNf.out, HSTf.out⟩
          case measure => simp [intOf]; omega
        · obtain rfl : i = l.length := by omega
          have HD2 := Lib.hid (HJ.out.done HG0.out (by omega))
          have hnm : n = m := by have := HFO.out; rw [List.take_length, HVD.out] at this; cases this; rfl
          subst hnm
          go_wp2_with fail
          go_ret
          exact ⟨_, rfl, HD2.out.1, HD2.out.2, HcN.out⟩
end Go.Proofs.YtodicpnojcaanaaDoor
