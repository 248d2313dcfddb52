/-
  The reference's numbered: what has been done after i rounds.
  The reference's numbered: contract.
-/
import Derived.Test.YthiilnhiihfknaaDoorSApp
import Derived.Test.YthiilnhiihfknaaDoorSNu
import Derived.Laws.EntriesVeiled
namespace Go.Proofs.YthiilnhiihfknaaDoor
open Go Go.RowKit

theorem owns_below {w w' : World} {base : Nat} {e : TypeId} {size : Nat} {v : Value} {n : Nat} {xs : List Value} (h : w.ownsRow base e size v n xs) (hb : Below w.heap.size w w') : w'.ownsRow base e size v n xs := by
  refine ⟨h.1, ?_⟩
  rcases h.2 with h1 | ⟨g, cap, cur, hv, h1, h2, h3⟩
  · exact .inl h1
  · exact .inr ⟨g, cap, cur, hv, h1, (hb.block g (lt_of_block h2)).trans h2, h3⟩
theorem news_new (W : World) (vs : List Value) (T : TypeId) (H : Nat) (hH : W.heap.size = H) : ∀ j u, vs[j]? = some u → (W.alloc (.cells vs.toArray T)).cell? ((⟨H, 0, none⟩ : Addr).add j) = some u := by
  intro j u hj
  subst hH
  rw [show (Addr.add ⟨W.heap.size, 0, none⟩ j) = ⟨W.heap.size, j, none⟩ by unfold Addr.add; split <;> simp_all]
  exact newCell W vs.toArray T j u (by simpa using hj)

theorem rowsS_snoc (l : List St) (s : St) (V : Nat → Value × Value × Value) (va vb ve : Value) : rowsS (l ++ [s]) (fun j => if j = l.length then (va, vb, ve) else V j) = rowsS l V ++ [sC s va vb ve] := by
  unfold rowsS
  rw [List.mapIdx_append]
  congr 1
  · apply List.ext_getElem?
    intro j
    rw [List.getElem?_mapIdx, List.getElem?_mapIdx]
    by_cases hj : j < l.length
    · simp [show j ≠ l.length by omega]
    · rw [List.getElem?_eq_none (by omega)]; rfl
  · simp

/-- The blocks of what has been numbered: old ones, R, and new ones; none is out's own. -/
abbrev Kn (w : World) (R : Nat → Prop) (v : Value) (wr : World) (b : Nat) : Prop := (R b ∨ (w.heap.size ≤ b ∧ b < wr.heap.size)) ∧ v.ownBlock ≠ some b
def NumI (w : World) (R : Nat → Prop) (k : Nat) (l : List St) (n0 : Int) (i : Nat) (v : Value) (wr : World) : Prop :=
  ∃ V : Nat → Value × Value × Value, wr.ownsRow w.heap.size 46 8 v i (rowsS (numbPre k l n0 i).1 V).flatten ∧
    (∀ (j : Nat) s, (numbPre k l n0 i).1[j]? = some s → New wr (Kn w R v wr) s (V j).1 (V j).2.1 (V j).2.2) ∧ Below w.heap.size w wr
theorem NumI.start (w : World) (R : Nat → Prop) (k : Nat) (l : List St) (n0 : Int) : NumI w R k l n0 0 (.slice none 0 0) w :=
  ⟨fun _ => (.bool false, .bool false, .bool false), by simpa [numbPre, rowsS] using World.ownsRow_nil w w.heap.size 46 8, fun j s h => by simp [numbPre] at h, Below.refl _ _⟩
theorem NumI.own {w : World} {R : Nat → Prop} {k : Nat} {l : List St} {n0 : Int} {i : Nat} {v : Value} {wr : World} (h : NumI w R k l n0 i v wr) : ∃ xs, wr.ownsRow w.heap.size 46 8 v i xs ∧
    (∀ w7 (snew : St) (va vb ve : Value) (o : Obj) g cap w8, (∀ b, R b → b < w.heap.size) → ∀ hi : i < l.length, Below wr.heap.size wr w7 → snew = numbSt k (numbPre k l n0 i).2 (l[i]'hi) →
      New w7 (Kn w R v w7) snew va vb ve →
      w8.ownsRow w.heap.size 46 8 (.slice (some ⟨g, 0, none⟩) (i + 1) cap) (i + 1) (xs ++ sC snew va vb ve) → (w7.alloc o).grownBy w8 v.ownBlock → (v.ownBlock = some g ∨ g = (w7.alloc o).heap.size) →
      NumI w R k l n0 (i + 1) (.slice (some ⟨g, 0, none⟩) (i + 1) cap) w8) := by
  obtain ⟨V, h1, h2, h3⟩ := h
  refine ⟨_, h1, fun w7 snew va vb ve o g cap w8 hR hi hb7 hs hN h8 hg hat => ?_⟩
  have hlen := numbPre_len k l n0 i (by omega)
  have hsz7 := hb7.size
  have hsz8 : w7.heap.size + 1 ≤ w8.heap.size := by have := hg.size; simpa using this
  have hown := h1.lt
  have hsz := h3.size
  have kk : ∀ W, wr.heap.size ≤ W.heap.size → W.heap.size ≤ w7.heap.size → ∀ b, Kn w R v W b → Kn w R (.slice (some ⟨g, 0, none⟩) (i + 1) cap) w8 b := by
    rintro W hW1 hW2 b ⟨hb1, hb2⟩
    have hbl : b < w7.heap.size := by
      rcases hb1 with hb1 | hb1
      · have := hR b hb1; omega
      · omega
    refine ⟨?_, ?_⟩
    · rcases hb1 with hb1 | hb1
      · exact .inl hb1
      · exact .inr ⟨hb1.1, by omega⟩
    · intro he
      simp [Value.ownBlock] at he
      rcases hat with hat | hat
      · exact hb2 (by rw [hat, he])
      · simp at hat; omega
  have cc : ∀ b q, b < w7.heap.size → v.ownBlock ≠ some b → w8.cell? ⟨b, q, none⟩ = w7.cell? ⟨b, q, none⟩ := fun b q hb hne =>
    (hg.cell_far ⟨b, q, none⟩ (by simp; omega) (fun e => hne e.symm)).trans ((bal w7 o).cell (p := ⟨b, q, none⟩) hb)
  have kl : ∀ W, W.heap.size ≤ w7.heap.size → ∀ b, Kn w R v W b → b < w7.heap.size := by
    rintro W hW b ⟨hb1 | hb1, _⟩
    · have := hR b hb1; omega
    · omega
  refine ⟨fun j => if j = i then (va, vb, ve) else V j, ?_, ?_, ?_⟩
  · rw [numbPre_succ hi]
    have := rowsS_snoc (numbPre k l n0 i).1 snew V va vb ve
    rw [hlen] at this
    rw [hs] at this
    show w8.ownsRow _ _ _ _ _ (rowsS ((numbPre k l n0 i).1 ++ [numbSt k (numbPre k l n0 i).2 l[i]]) _).flatten
    rw [this, ← hs]
    simpa using h8
  · intro j s hj
    rw [numbPre_succ hi] at hj
    by_cases hji : j < i
    · have hj' : (numbPre k l n0 i).1[j]? = some s := by
        rw [List.getElem?_append_left (by omega)] at hj
        exact hj
      simp only [show j ≠ i by omega, if_false]
      refine (h2 j s hj').keep (kk wr (Nat.le_refl _) hsz7) fun b q hb => ?_
      have hb' : b < wr.heap.size := by
        rcases hb.1 with h | h
        · have := hR b h; omega
        · exact h.2
      exact (cc b q (by omega) hb.2).trans (hb7.cell (p := ⟨b, q, none⟩) hb')
    · have hji' : j = i := by
        have := (List.getElem?_eq_some_iff.1 hj).1
        simp [hlen] at this
        omega
      subst hji'
      rw [List.getElem?_append_right (by omega), hlen, Nat.sub_self] at hj
      simp at hj
      subst hj
      simp only [if_true]
      rw [← hs]
      exact hN.keep (kk w7 hsz7 (Nat.le_refl _)) fun b q hb => cc b q (kl w7 (Nat.le_refl _) b hb) hb.2
  · exact ((h3.trans (hb7.mono hsz)).alloc (by omega) o).grown hg (by simp; omega) fun j hj => (hown j hj).1
def CapOk (v : Value) : Prop := ∀ A n c, v = .slice A n c → n ≤ c
theorem NumI.cap {w : World} {R : Nat → Prop} {k : Nat} {l : List St} {n0 : Int} {i : Nat} {v : Value} {wr : World} (h : NumI w R k l n0 i v wr) : CapOk v := by
  obtain ⟨V, h1, _⟩ := h
  intro A n c e
  rcases h1.2 with ⟨rfl, _⟩ | ⟨g, cap, cur, rfl, _, _, hn, _⟩
  · cases e; omega
  · cases e; exact hn
theorem NumI.done {w : World} {R : Nat → Prop} {k : Nat} {l : List St} {n0 : Int} {v : Value} {wr : World} (h : NumI w R k l n0 l.length v wr) (hl : l.length ≤ 1000) :
    Below w.heap.size w wr ∧ SR wr (fun b => R b ∨ (w.heap.size ≤ b ∧ b < wr.heap.size)) (numbL (k + 1) l n0).1 v := by
  obtain ⟨V, h1, h2, h3⟩ := h
  have he : (numbL (k + 1) l n0).1 = (numbPre k l n0 l.length).1 := by
    unfold numbPre
    rw [List.take_length, numbL]
  have hlen := numbPre_len k l n0 l.length (Nat.le_refl _)
  rw [he]
  refine ⟨h3, ?_⟩
  have hrl := rowsS_len (numbPre k l n0 l.length).1 V
  rw [hlen] at hrl
  have h1' : wr.ownsRow w.heap.size 46 8 v (rowsS (numbPre k l n0 l.length).1 V).length (rowsS (numbPre k l n0 l.length).1 V).flatten := by rw [hrl]; exact h1
  obtain ⟨_, hc⟩ := CloneR.of_own (rowsS_sz _ _) h1' h3
  rcases hc with ⟨hr, A, c, hv⟩ | ⟨g, cap, hv, hg, hr⟩
  · cases hv
    have hl0 : (numbPre k l n0 l.length).1 = [] := by
      have := rowsS_len (numbPre k l n0 l.length).1 V
      rw [hr] at this
      exact List.eq_nil_of_length_eq_zero this.symm
    rw [hl0]
    exact SR.nil _ _
  · cases hv
    rw [rowsS_len]
    exact SR.of_row hr (.inr ⟨hg, hr.lt⟩) (by omega) (fun i s hi => (h2 i s hi).ok) (fun i s hi => (h2 i s hi).a.keep (fun b hb => hb.1) fun _ _ _ => rfl) (fun i s hi => (h2 i s hi).b.keep (fun b hb => hb.1) fun _ _ _ => rfl) (fun i s hi => (h2 i s hi).e.keep (fun b hb => hb.1) fun _ _ _ => rfl)
end Go.Proofs.YthiilnhiihfknaaDoor

namespace Go.Proofs.YthiilnhiihfknaaDoor
open Go Go.RowKit

def NumdR (w : World) (R : Nat → Prop) (k : Nat) (l : List St) (no : Int) (m : Nat) (e : Ending) (w' : World) : Prop :=
  ∃ v, e = .returned (.tuple #[v, .int .i64 (m : Int)]) ∧ Below w.heap.size w w' ∧ SR w' (fun b => R b ∨ (w.heap.size ≤ b ∧ b < w'.heap.size)) (numbL k l no).1 v ∧ CapOk v

set_option maxRecDepth 100000 in
set_option maxHeartbeats 8000000 in
theorem refNumbered_calls (k : Nat) : ∀ (R : Nat → Prop) (l : List St) (v : Value) (no : Int) (n0 m : Nat) (w : World), no = (n0 : Int) → k ≤ 20 → n0 ≤ 200 → (∀ b, R b → b < w.heap.size) → SR w R l v → vis FA k l n0 = some m →
    Calls Tryd.prog 56 #[v, .int .i64 no] w (NumdR w R k l no m) := by
  induction k with
  | zero =>
    intro R l v no n0 m w hno _ h0 hR hl hv
    subst hno
    obtain ⟨A, c, rfl⟩ := hl.slice
    have h1 : l = [] := by unfold vis at hv; split at hv; assumption; cases hv
    subst h1
    have h2 : n0 = m := by simpa [vis] using hv
    subst h2
    go_enter Tryd.func56, Tryd.ntmps56
    go_wp2_with fail
    refine wp_loop_rounds 1 ?_
    rw [rounds_succ]
    go_wp2_with fail
    go_ret2
    exact ⟨_, rfl, Below.refl _ _, by rw [show (numbL 0 [] (n0 : Int)).1 = [] from rfl]; exact SR.nil _ _, fun A n c e => by cases e; omega⟩
  | succ k ih =>
    intro R l v no n0 m w hno hk h0 hR hl hv
    subst hno
    obtain ⟨A, c, rfl⟩ := hl.slice
    have hlen := vis_len FA (k + 1) l n0 m hv h0
    have hm200 := vis_bounds FA (k + 1) l n0 m hv h0
    have IH := Lib.hid ih
    have HR := Lib.hid hR
    obtain ⟨V0, hV0⟩ := hl.cells
    have HV := Lib.hid hV0
    have HVS := Lib.hid (fun (i n : Nat) hi hf => vis_at hv h0 (i := i) (n := n) hi hf)
    have HVD := Lib.hid (show l.foldlM (visS FA k) n0 = some m by rw [← vis_succ]; exact hv)
    clear ih hl hV0 hv hR
    obtain ⟨i0, hi0, hz0, hz1, hz2⟩ := info_parts infoE
    obtain ⟨i1, hi1, hy0, hy1, hy2⟩ := info_parts infoS
    have HI0 := Lib.hid hi0
    have HZ0 := Lib.hid hz0
    have HZ1 := Lib.hid hz1
    have HZ2 := Lib.hid hz2
    have HI1 := Lib.hid hi1
    have HY0 := Lib.hid hy0
    have HY1 := Lib.hid hy1
    have HY2 := Lib.hid hy2
    clear hi0 hz0 hz1 hz2 hi1 hy0 hy1 hy2
    go_enter Tryd.func56, Tryd.ntmps56
    go_wp2_with fail
    go_loopw [1, 6, 7] (fun nv v c wr => ∃ (i n : Nat), i ≤ l.length ∧ c = .int .i64 i ∧ nv = .int .i64 n ∧ n ≤ 200 ∧ (l.take i).foldlM (visS FA k) n0 = some n ∧ Hid (NumI w R k l n0 i v wr)) (fun _ _ c _ => l.length - (intOf c).toNat)
    case atStart => exact ⟨0, n0, by omega, rfl, rfl, h0, rfl, Lib.hid (NumI.start _ _ _ _ _)⟩
    case round =>
      obtain ⟨i, n, hi, rfl, rfl, hn, hfold, HJ⟩ := hrel
      have HFO := Lib.hid hfold
      clear hfold
      by_cases hlt : i < l.length
      · obtain ⟨hos, ha, hb, he, bk, o, hA, hbR, hc⟩ := HV.out i _ (List.getElem?_eq_getElem hlt)
        have hbl := HR.out bk hbR
        have hBW := HJ.out.choose_spec.2.2
        have hz := hBW.size
        obtain ⟨c0, c1, c2, c3, c4, c5, c6, c7⟩ := hc.keep (fun q => hBW.cell (p := ⟨bk, q, none⟩) hbl)
        obtain ⟨Aa, ca, hsa⟩ := ha.slice
        obtain ⟨Ab, cb, hsb⟩ := hb.slice
        obtain ⟨Ae, ce, hse⟩ := he.slice
        rw [hsa] at c5 ha
        rw [hsb] at c6 hb
        rw [hse] at c7 he
        have kR : ∀ b q, R b → wr.cell? ⟨b, q, none⟩ = w.cell? ⟨b, q, none⟩ := fun b q hb' => hBW.cell (p := ⟨b, q, none⟩) (HR.out b hb')
        have hRr : ∀ b, R b → b < wr.heap.size := fun b hb' => Nat.lt_of_lt_of_le (HR.out b hb') hz
        have HA := Lib.hid (ha.keep (fun _ h => h) kR)
        have HB := Lib.hid (hb.keep (fun _ h => h) kR)
        have HE := Lib.hid (he.keep (fun _ h => h) kR)
        have HRr := Lib.hid hRr
        obtain ⟨a, b, hn200, hFn, hva, hvb, hfn, ha2, hb2⟩ := HVS.out i n hlt HFO.out
        have HFA := Lib.hid (headB_args hFn)
        have HVA := Lib.hid hva
        have HVB := Lib.hid hvb
        have HFN := Lib.hid hfn
        have HPN := Lib.hid (pre_vis FA k l i n0 n HFO.out)
        have HOS := Lib.hid hos
        obtain ⟨xs, hown, hstep⟩ := HJ.out.own
        have HOW := Lib.hid hown
        have HST := Lib.hid (fun w7 snew va vb ve o g cap w8 h1 h2 h3 h4 h5 h6 => hstep w7 snew va vb ve o g cap w8 HR.out hlt h1 h2 h3 h4 h5 h6)
        have hbr : bk < wr.heap.size := by omega
        have hne1 : bk ≠ wr.heap.size := by omega
        have hne2 : wr.heap.size ≠ bk := by omega
        subst hA
        clear hBW ha hb he hsa hsb hse hva hvb hfn hos hFn hc hown hstep kR hRr
        have HLN := Lib.hid (show (numbPre k l n0 i).2 = (n : Int) from HPN.out)
        clear HPN
        generalize hs : l[i] = s at *
        clear hs
        have hni : (n : Int) + 1 ≤ 200 := by omega
        obtain ⟨Va, hVa⟩ := HA.out.cells
        have HVa := Lib.hid hVa
        clear hVa
        have hargs : s.args.length ≤ 1000 := by have := HFA.out.1; omega
        have B0 : Below wr.heap.size wr (wr.alloc (sO { s with no := (n : Int) } (.slice Aa s.args.length ca) (.slice Ab s.body.length cb) (.slice Ae s.els.length ce))) := bal _ _
        have X0 := BX.new wr { s with no := (n : Int) } (.slice Aa s.args.length ca) (.slice Ab s.body.length cb) (.slice Ae s.els.length ce)
        have hW : (wr.alloc (sO { s with no := (n : Int) } (.slice Aa s.args.length ca) (.slice Ab s.body.length cb) (.slice Ae s.els.length ce))).heap.size = wr.heap.size + 1 := sz1 _ _
        have hrd : 0 < (rowsE s.args Va).length → ∃ b o, Aa = some ⟨b, o, none⟩ ∧ ∀ j u, (rowsE s.args Va).flatten[j]? = some u → ((wr.alloc (sO { s with no := (n : Int) } (.slice Aa s.args.length ca) (.slice Ab s.body.length cb) (.slice Ae s.els.length ce))).alloc (.cells #[] 24)).cell? ⟨b, o + j, none⟩ = some u := by
          intro hp
          rw [rowsE_len] at hp
          obtain ⟨_, _, b', o', hA', hR', _⟩ := HVa.out 0 s.args[0] (List.getElem?_eq_getElem hp)
          refine ⟨b', o', hA', rows_read (by omega) (rowsE_sz s.args Va) fun i' r j u hi' hj => ?_⟩
          obtain ⟨e', he', rfl⟩ := rowsE_inv hi'
          obtain ⟨_, _, b'', o'', hA'', hR'', q0, q1, q2, q3, q4⟩ := HVa.out i' e' he'
          rw [hA'] at hA''
          cases hA''
          have kk : ∀ q, ((wr.alloc (sO { s with no := (n : Int) } (.slice Aa s.args.length ca) (.slice Ab s.body.length cb) (.slice Ae s.els.length ce))).alloc (.cells #[] 24)).cell? ⟨b', q, none⟩ = wr.cell? ⟨b', q, none⟩ := fun q => (bal2 wr _ _).cell (p := ⟨b', q, none⟩) (HRr.out b' hR'')
          rw [kk]
          match j, hj with
          | 0, hj => cases hj; exact q0
          | 1, hj => cases hj; exact q1
          | 2, hj => cases hj; exact q2
          | 3, hj => cases hj; exact q3
          | 4, hj => cases hj; exact q4
          | j + 5, hj => simp [eC] at hj
        have h1c : ∀ u ∈ (rowsE s.args Va).flatten, u.oneCell' = true := flat_one fun r hr u hu => by
          obtain ⟨i', hi', rfl⟩ := List.getElem_of_mem hr
          obtain ⟨e', he', h2⟩ := rowsE_inv (List.getElem?_eq_getElem hi')
          rw [h2] at hu
          simp only [eC, List.mem_cons, List.not_mem_nil, or_false] at hu
          rcases hu with rfl | rfl | rfl | rfl | rfl <;> first | rfl | exact slice_one (HVa.out i' e' he').2.1
        have HRD := Lib.hid hrd
        have H1C := Lib.hid h1c
        have HW0 := Lib.hid hW
        have HB0 := Lib.hid B0
        have HX0 := Lib.hid X0
        clear hrd h1c hW B0 X0
        go_wp2_with (at_builtin; go_loud (refine wpList_append_clone rfl (.tmp 21) (.tmp 23) 22 rfl 24 i0 _ 5 64 Tryd.underlying22 HI0.out HZ0.out HZ1.out HZ2.out rfl (by decide) (by decide) _ _ HW0.out rfl (rowsE s.args Va) (rowsE_sz _ _) H1C.out (by rw [rowsE_len]; exact hargs) Aa s.args.length ca (rowsE_len _ _).symm rfl HRD.out ?_))
        intro v5 w2 hcl
        obtain ⟨hb5, A5, c5', rfl, hE5⟩ := hcl.exs hargs (fun b hb => by rw [HW0.out]; have := HRr.out b hb; omega) (fun i' e' he' => (HVa.out i' e' he').1) (fun i' e' he' => (HVa.out i' e' he').2.1.keep (fun _ h => h) fun b q hb => HB0.out.cell (p := ⟨b, q, none⟩) (HRr.out b hb))
        have X2 : BX w2 wr.heap.size { s with no := (n : Int) } (.slice Aa s.args.length ca) (.slice Ab s.body.length cb) (.slice Ae s.els.length ce) := HX0.out.bel hb5 (by rw [HW0.out]; omega)
        have B2 : Below wr.heap.size wr w2 := HB0.out.trans (hb5.mono (by rw [HW0.out]; omega))
        have hz2 : wr.heap.size + 1 ≤ w2.heap.size := by have := hb5.size; rw [HW0.out] at this; exact this
        have E2 : ER w2 (fun b => R b ∨ (wr.heap.size < b ∧ b < w2.heap.size)) s.args (.slice A5 s.args.length c5') := hE5.keep (fun b hb => by rcases hb with hb | hb; exact .inl hb; exact .inr ⟨by have := hb.1; rw [HW0.out] at this; omega, hb.2⟩) fun _ _ _ => rfl
        have B3 : Below wr.heap.size wr (w2.setCell ⟨wr.heap.size, 5, none⟩ (.slice A5 s.args.length c5')) := B2.setCell (Nat.le_refl _) _
        have X3 := X2.set5 (.slice A5 s.args.length c5')
        have q5 := X2.at_.c5
        have f5 := X2.free 5
        have d6 := (B3.cell (p := ⟨bk, o + i * 8 + 6, none⟩) hbr).trans c6
        have HB3 := Lib.hid B3
        have HX3 := Lib.hid X3
        have HE2 := Lib.hid E2
        have hno : (n : Int) + 1 = ((n + 1 : Nat) : Int) := by omega
        have HNO := Lib.hid hno
        clear hb5 hE5 X2 B2 E2 B3 X3 hcl hno c0 c1 c2 c3 c4 c5 c6
        go_wp2_with fail
        refine (IH.out R s.body _ _ (n + 1) a _ HNO.out (by omega) (by omega) (fun b hb => by rw [size_set]; have := HRr.out b hb; omega) (HB.out.keep (fun _ h => h) fun b q hb => HB3.out.cell (p := ⟨b, q, none⟩) (HRr.out b hb)) HVA.out).mono ?_
        rintro e w4 ⟨v6, rfl, hb4, hS6, _⟩
        obtain ⟨A6, c6', rfl⟩ := hS6.slice
        have hz4 : w2.heap.size ≤ w4.heap.size := by have := hb4.size; rw [size_set] at this; exact this
        have X4 : BX w4 wr.heap.size { s with no := (n : Int) } (.slice A5 s.args.length c5') (.slice Ab s.body.length cb) (.slice Ae s.els.length ce) := HX3.out.bel hb4 (by rw [size_set]; omega)
        have k24 : ∀ b q, b < w2.heap.size → b ≠ wr.heap.size → w4.cell? ⟨b, q, none⟩ = w2.cell? ⟨b, q, none⟩ := fun b q hb hne => (hb4.cell (p := ⟨b, q, none⟩) (by rw [size_set]; exact hb)).trans (World.cell?_of_block (w := w2) (Below.heap_setCell w2 _ _ b hne))
        have E4 : ER w4 (fun b => R b ∨ (wr.heap.size < b ∧ b < w4.heap.size)) s.args (.slice A5 s.args.length c5') := HE2.out.keep (fun b hb => by rcases hb with hb | hb; exact .inl hb; exact .inr ⟨hb.1, by omega⟩) fun b q hb => k24 b q (by rcases hb with hb | hb; have := HRr.out b hb; omega; exact hb.2) (by rcases hb with hb | hb; have := HRr.out b hb; omega; have := hb.1; omega)
        have S4 : SR w4 (fun b => R b ∨ (wr.heap.size < b ∧ b < w4.heap.size)) (numbL k s.body ((n : Int) + 1)).1 (.slice A6 (numbL k s.body ((n : Int) + 1)).1.length c6') := hS6.keep (fun b hb => by rcases hb with hb | hb; exact .inl hb; exact .inr ⟨by have := hb.1; rw [size_set] at this; omega, hb.2⟩) fun _ _ _ => rfl
        have B4 : Below wr.heap.size wr w4 := HB3.out.trans (hb4.mono (by rw [size_set]; omega))
        have B5 : Below wr.heap.size wr (w4.setCell ⟨wr.heap.size, 6, none⟩ (.slice A6 (numbL k s.body ((n : Int) + 1)).1.length c6')) := B4.setCell (Nat.le_refl _) _
        have X5 := X4.set6 (.slice A6 (numbL k s.body ((n : Int) + 1)).1.length c6')
        have q6 := X4.at_.c6
        have f6 := X4.free 6
        have d7 := (B5.cell (p := ⟨bk, o + i * 8 + 7, none⟩) hbr).trans c7
        have HB5 := Lib.hid B5
        have HX5 := Lib.hid X5
        have HE4 := Lib.hid E4
        have HS4 := Lib.hid S4
        have HL6 := Lib.hid (show ∃ x, (numbL k s.body ((n : Int) + 1)).1.length = x from ⟨_, rfl⟩)
        clear hb4 hS6 X4 k24 E4 S4 B4 B5 X5 HE2 HB3 HX3 q5 f5 d6 c7
        generalize (numbL k s.body ((n : Int) + 1)).1.length = len6 at *
        go_wp2_with fail
        refine (IH.out R s.els _ _ a b _ rfl (by omega) (by omega) (fun b hb => by rw [size_set]; have := HRr.out b hb; omega) (HE.out.keep (fun _ h => h) fun b q hb => HB5.out.cell (p := ⟨b, q, none⟩) (HRr.out b hb)) HVB.out).mono ?_
        rintro e w6 ⟨v7, rfl, hb6, hS7, _⟩
        obtain ⟨A7, c7', rfl⟩ := hS7.slice
        have hz6 : w4.heap.size ≤ w6.heap.size := by have := hb6.size; rw [size_set] at this; exact this
        have X6 := HX5.out.bel hb6 (by rw [size_set]; omega)
        have k46 : ∀ b q, b < w4.heap.size → b ≠ wr.heap.size → w6.cell? ⟨b, q, none⟩ = w4.cell? ⟨b, q, none⟩ := fun b q hb hne => (hb6.cell (p := ⟨b, q, none⟩) (by rw [size_set]; exact hb)).trans (World.cell?_of_block (w := w4) (Below.heap_setCell w4 _ _ b hne))
        have k67 : ∀ b q, b ≠ wr.heap.size → (w6.setCell ⟨wr.heap.size, 7, none⟩ (.slice A7 (numbL k s.els (a : Int)).1.length c7')).cell? ⟨b, q, none⟩ = w6.cell? ⟨b, q, none⟩ := fun b q hne => World.cell?_of_block (w := w6) (Below.heap_setCell w6 _ _ b hne)
        have hb67 : ∀ b, R b ∨ (wr.heap.size < b ∧ b < w4.heap.size) → b < w4.heap.size ∧ b ≠ wr.heap.size := fun b hb => by
          rcases hb with hb | hb
          · have := HRr.out b hb; omega
          · omega
        have X7 := BX.set7 X6 (.slice A7 (numbL k s.els (a : Int)).1.length c7')
        have B7 : Below wr.heap.size wr (w6.setCell ⟨wr.heap.size, 7, none⟩ (.slice A7 (numbL k s.els (a : Int)).1.length c7')) := (HB5.out.trans (hb6.mono (by rw [size_set]; omega))).setCell (Nat.le_refl _) _
        have ea : (numbL k s.body ((n : Int) + 1)).2 = a := by rw [HNO.out]; exact numb_vis FA k s.body (n + 1) a HVA.out
        have ho7 : ∀ b, R b ∨ (wr.heap.size < b ∧ b < w6.heap.size) → (R b ∨ (w.heap.size ≤ b ∧ b < (w6.setCell ⟨wr.heap.size, 7, none⟩ (.slice A7 (numbL k s.els (a : Int)).1.length c7')).heap.size)) ∧ u6.ownBlock ≠ some b := fun b hb => by
          rw [size_set]
          refine ⟨?_, fun e => ?_⟩
          · rcases hb with hb | hb
            · exact .inl hb
            · exact .inr ⟨by omega, hb.2⟩
          · have h1 := HOW.out.lt b e
            rcases hb with hb | hb
            · have := HR.out b hb; omega
            · omega
        have hnew : New (w6.setCell ⟨wr.heap.size, 7, none⟩ (.slice A7 (numbL k s.els (a : Int)).1.length c7')) (Kn w R u6 (w6.setCell ⟨wr.heap.size, 7, none⟩ (.slice A7 (numbL k s.els (a : Int)).1.length c7'))) (numbSt k (n : Int) s) (.slice A5 s.args.length c5') (.slice A6 len6 c6') (.slice A7 (numbL k s.els (a : Int)).1.length c7') := by
          refine ⟨⟨HOS.out.kind, by show okI (n : Int); unfold okI; omega, HOS.out.typ, HOS.out.name, HOS.out.callee⟩, ?_, ?_, ?_⟩
          · exact HE4.out.keep (fun b hb => ho7 b (by rcases hb with hb | hb; exact .inl hb; exact .inr ⟨hb.1, by omega⟩)) fun b q hb => (k67 b q (hb67 b hb).2).trans (k46 b q (hb67 b hb).1 (hb67 b hb).2)
          · show SR _ _ (numbL k s.body ((n : Int) + 1)).1 _
            exact HS4.out.keep (fun b hb => ho7 b (by rcases hb with hb | hb; exact .inl hb; exact .inr ⟨hb.1, by omega⟩)) fun b q hb => (k67 b q (hb67 b hb).2).trans (k46 b q (hb67 b hb).1 (hb67 b hb).2)
          · show SR _ _ (numbL k s.els (numbL k s.body ((n : Int) + 1)).2).1 _
            rw [ea]
            exact hS7.keep (fun b hb => ho7 b (by rcases hb with hb | hb; exact .inl hb; exact .inr ⟨by have := hb.1; rw [size_set] at this; omega, hb.2⟩)) fun b q hb => k67 b q (by rcases hb with hb | hb; have := HRr.out b hb; omega; have := hb.1; rw [size_set] at this; omega)
        have HNEW := Lib.hid hnew
        have HB7 := Lib.hid B7
        obtain ⟨r0, r1, r2, r3, r4, r5, r6, r7⟩ := BX.at_ X7
        simp only at r0 r1 r2 r3 r4
        have q7 := (BX.at_ X6).c7
        have f7 := X6.free 7
        have HOW7 := Lib.hid (owns_below HOW.out B7)
        have hz7 : (w6.setCell ⟨wr.heap.size, 7, none⟩ (.slice A7 (numbL k s.els (a : Int)).1.length c7')).heap.size = w6.heap.size := size_set _ _ _
        have HZ7 := Lib.hid hz7
        have hz76 : wr.heap.size ≤ w6.heap.size := by omega
        clear hb6 hS7 X6 k46 k67 hb67 X7 B7 ea ho7 hnew hz7 q6 f6 d7 HB5 HX5 HE4 HS4
        generalize (numbL k s.els (a : Int)).1.length = len7 at *
        go_wp2_with (at_builtin; go_loud (refine wpList_append_lies _ rfl (.tmp 49) (.tmp 51) 41 rfl w.heap.size 46 i1 _ 8 128 Tryd.underlying41 HI1.out HY0.out HY1.out HY2.out rfl (by decide) u6 i xs rfl (HOW7.out.alloc _) ⟨w6.heap.size, 0, none⟩ 1 1 (sC (numbSt k (n : Int) s) (.slice A5 s.args.length c5') (.slice A6 len6 c6') (.slice A7 len7 c7')) rfl rfl (news_new _ _ _ _ HZ7.out) (by intro u hu; simp [sC] at hu; rcases hu with rfl | rfl | rfl | rfl | rfl | rfl | rfl | rfl <;> rfl) (by decide) (by unfold maxLen; omega) (by omega) (by simp; omega) _ rfl ?_))
        intro g cap w8 hown8 hgr8 hat hlt8
        have HNI := Lib.hid (HST.out _ _ _ _ _ _ g cap w8 HB7.out (by rw [HLN.out]) HNEW.out hown8 hgr8 (by rcases hat with h | h; exact .inl h; exact .inr (by rw [h]; simp)))
        clear hown8 hgr8 hat hlt8
        go_wp2_with fail
        go_roundw
        case rel => exact ⟨i + 1, b, by omega, by go_num, rfl, hb2, HFN.out, HNI⟩
        case measure => simp [intOf]; omega
      · obtain rfl : i = l.length := by omega
        have hnm : n = m := by have := HFO.out; rw [List.take_length, HVD.out] at this; cases this; rfl
        subst hnm
        have HD := Lib.hid (HJ.out.done (by omega))
        go_wp2_with fail
        go_ret2
        exact ⟨_, rfl, HD.out.1, HD.out.2, HJ.out.cap⟩
end Go.Proofs.YthiilnhiihfknaaDoor
