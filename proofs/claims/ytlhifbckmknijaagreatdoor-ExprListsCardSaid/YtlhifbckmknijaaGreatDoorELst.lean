/-
  The law's two rows, of expressions and of texts; what strings.Join gives; drafts in memory.
  slices.EqualFunc of expressions; ExprLists, its examples' contract given. Written by gen5_lists.py.
  A datum at a slice of drafts.
-/
import Derived.Test.YtlhifbckmknijaaGreatDoorEListP
import Derived.Test.YtlhifbckmknijaaGreatDoorECuts
import Derived.Test.YtlhifbckmknijaaGreatDoorEText
import Derived.Test.YtlhifbckmknijaaGreatDoorERow
import Derived.Lib.AppendZeros
import Derived.Test.YtlhifbckmknijaaGreatDoorETk
import Derived.Test.YtlhifbckmknijaaGreatDoorEWorks
import Derived.BigRegion
import Derived.Deep.RegionWith
import Derived.Deep.RegionHeld3
import Derived.Test.YtlhifbckmknijaaGreatDoorEFrame
namespace Go.Proofs.YtlhifbckmknijaaGreatDoor.E5
open Go Go.RowKit Go.Proofs.YtlhifbckmknijaaGreatDoor

/-! ### rows -/
/-- Expressions in a row whose parts do not lie in block g. -/
def kX (g : Option Nat) : S3.RowKind Ex Value := ⟨29, 5, S3.eC, fun w R e v => S3.OkE e ∧ S3.ER w (fun b => R b ∧ g ≠ some b) e.args v, fun _ _ => rfl, fun h hR hk => ⟨h.1, h.2.keep (fun b hb => ⟨hR b hb.1, hb.2⟩) fun b i hb => hk b i hb.1⟩⟩
def txV (ts : List Tr) : List Value := ts.map fun t => Value.string (B t.tx)
structure WP (w wr : World) (ts : List Tr) (vW vP : Value) : Prop where
  x : S3.GrI (kX vP.ownBlock) w.heap.size (ts.map Tr.ex) vW wr
  p : wr.ownsRow w.heap.size 9 1 vP ts.length (txV ts)
  d : ∀ b, vW.ownBlock = some b → vP.ownBlock ≠ some b
  bel : Below w.heap.size w wr
theorem WP.start (w : World) : WP w w [] (.slice none 0 0) (.slice none 0 0) :=
  ⟨S3.GrI.start _ (Nat.le_refl _) (fun _ => .bool false), World.ownsRow_nil _ _ _ _, fun b e => (by cases e), Below.refl _ _⟩
theorem WP.bl {w wr w' : World} {ts : List Tr} {vW vP : Value} (h : WP w wr ts vW vP) (hb : Below wr.heap.size wr w') : WP w w' ts vW vP :=
  ⟨h.x.bel hb, own_keep h.p fun g hg => hb.block g (h.p.lt g hg).2, h.d, h.bel.trans (hb.mono h.bel.size)⟩
/-- Behind the expression's append. -/
structure WX (w wr : World) (ts : List Tr) (t : Tr) (vW vP : Value) : Prop where
  x : S3.GrI (kX vP.ownBlock) w.heap.size ((ts ++ [t]).map Tr.ex) vW wr
  p : wr.ownsRow w.heap.size 9 1 vP ts.length (txV ts)
  d : ∀ b, vW.ownBlock = some b → vP.ownBlock ≠ some b
  bel : Below w.heap.size w wr
theorem WX.bl {w wr w' : World} {ts : List Tr} {t : Tr} {vW vP : Value} (h : WX w wr ts t vW vP) (hb : Below wr.heap.size wr w') : WX w w' ts t vW vP :=
  ⟨h.x.bel hb, own_keep h.p fun g hg => hb.block g (h.p.lt g hg).2, h.d, h.bel.trans (hb.mono h.bel.size)⟩
theorem WP.appX {w wr W : World} {ts : List Tr} {vW vP : Value} (h : WP w wr ts vW vP) (hb : Below wr.heap.size wr W) (t : Tr) {A : Option Addr} {k c : Nat} (ho : S3.OkE t.ex) (hE : S3.ER W (Rn wr.heap.size W.heap.size) t.ex.args (.slice A k c)) (hl : ts.length ≤ 100) :
    ∃ g cap w8, (Builtin.append_ #[27, 27] 27 #[vW, .slice (some ⟨W.heap.size, 0, none⟩) 1 1]).run Tryz.prog (W.alloc (S3.eO t.ex (.slice A k c))) = .ok (.slice (some ⟨g, 0, none⟩) (ts.length + 1) cap) w8 ∧
      WX w w8 ts t (.slice (some ⟨g, 0, none⟩) (ts.length + 1) cap) vP ∧ W.heap.size ≤ w8.heap.size ∧ (∀ b, wr.heap.size ≤ b → b < W.heap.size → w8.heap[b]? = W.heap[b]?) := by
  obtain ⟨i0, hi0, hz0, hz1, hz2⟩ := info_parts S3.infoE
  have hW := h.x.bel hb
  have hp := h.x.part (a := t.ex) (x := .slice A k c) (w1 := W) ⟨ho, hE.keep (fun b hb => ⟨hb, fun e => by have := (h.p.lt b e).2; have := hb.1; omega⟩) fun _ _ _ => rfl⟩
  obtain ⟨xs, hown, hst⟩ := hW.own
  have hbase : w.heap.size ≤ W.heap.size := by obtain ⟨_, _, _, h3⟩ := hW; exact h3
  rw [List.length_map] at hown hst
  obtain ⟨v', w', hrun, h2, h3, _, h5⟩ := run_append_own_at (P := Tryz.prog) (W.alloc (S3.eO t.ex (.slice A k c))) w.heap.size 27 27 29 i0 _ 5 64 Tryz.underlying27 hi0 hz0 hz1 hz2 rfl (by decide) vW ts.length xs (hown.alloc _) ⟨W.heap.size, 0, none⟩ 1 1 (S3.eC t.ex (.slice A k c)) rfl
    (fun j u hu => by rw [add_plain, Nat.zero_add]; exact S3.newCell W _ 29 j u (by rw [List.getElem?_toArray]; exact hu)) (by intro u hu; simp [S3.eC] at hu; rcases hu with rfl | rfl | rfl | rfl | rfl <;> rfl) (by unfold maxLen; omega) (by omega) (by rw [S3.sz1]; omega)
  obtain ⟨g, cap, rfl⟩ : ∃ g cap, v' = .slice (some ⟨g, 0, none⟩) (ts.length + 1) cap := by
    rcases h2.2 with ⟨_, h9⟩ | ⟨g, cap, cur, e1, _⟩
    · omega
    · exact ⟨g, cap, e1⟩
  have h6 : vW.ownBlock = some g ∨ g = W.heap.size + 1 := by
    rcases h5 with h5 | h5
    · exact .inl h5.symm
    · simp only [Value.ownBlock, Option.some.injEq, S3.sz1] at h5; exact .inr h5
  have h6' : vW.ownBlock = some g ∨ g = (W.alloc (S3.eO t.ex (.slice A k c))).heap.size := by rw [S3.sz1]; exact h6
  obtain ⟨h7, h8⟩ := hst t.ex (.slice A k c) _ g cap w' hp h2 h3 h6'
  have hpW : W.ownsRow w.heap.size 9 1 vP ts.length (txV ts) := own_keep h.p fun g hg => hb.block g (h.p.lt g hg).2
  obtain ⟨p1, p2⟩ := own_side hpW h.d h3 h6
  have hsz : W.heap.size ≤ w'.heap.size := by have := h3.size; rw [S3.sz1] at this; omega
  refine ⟨g, cap, w', hrun, ⟨by rw [List.map_append]; exact h7, p1, fun b e => by cases e; exact p2, (h.bel.trans (hb.mono h.bel.size)).trans h8⟩, hsz, fun b hb1 hb2 => ?_⟩
  refine (h3.block b (by rw [S3.sz1]; omega) fun e => ?_).trans ((S3.bal W _).block b hb2)
  have := (h.x.le e.symm).2
  omega
theorem WX.appP {w w9 : World} {ts : List Tr} {t : Tr} {vW vP : Value} (h : WX w w9 ts t vW vP) (hl : ts.length ≤ 100) :
    ∃ g2 cap2 w10, (Builtin.append_ #[44, 44] 44 #[vP, .slice (some ⟨w9.heap.size, 0, none⟩) 1 1]).run Tryz.prog (w9.alloc (.cells #[.string (B t.tx)] 9)) = .ok (.slice (some ⟨g2, 0, none⟩) (ts.length + 1) cap2) w10 ∧
        WP w w10 (ts ++ [t]) vW (.slice (some ⟨g2, 0, none⟩) (ts.length + 1) cap2) ∧ (∀ b, b < w9.heap.size → vP.ownBlock ≠ some b → w10.heap[b]? = w9.heap[b]?) := by
  obtain ⟨iS, hS, hS0, hS1, hS2⟩ := L4.info_partsT infoStr
  obtain ⟨g, cap, u, r, G, hg, hat⟩ := own_app Tryz.underlying44 hS hS0 hS1 hS2 rfl (by decide) h.p h.bel.size (by omega) (.string (B t.tx)) rfl 44
  have hsz : w9.heap.size ≤ u.heap.size := by have := hg.size; rw [S3.sz1] at this; omega
  have far : ∀ b, b < w9.heap.size → vP.ownBlock ≠ some b → u.heap[b]? = w9.heap[b]? := fun b hlt hne =>
    (hg.block b (by rw [S3.sz1]; omega) fun e => hne e.symm).trans ((S3.bal w9 _).block b hlt)
  have hne : ∀ b, b < w9.heap.size → vP.ownBlock ≠ some b → g ≠ b := fun b h1 h2 e => by
    subst e
    rcases hat with h3 | h3
    · exact h2 h3
    · omega
  refine ⟨g, cap, u, r, ⟨?_, ?_, ?_, own_bel h.p h.bel hg⟩, far⟩
  · obtain ⟨V, ⟨h0, h1⟩, h2, h3⟩ := h.x
    refine ⟨V, ⟨h0, ?_⟩, fun j a hj => ?_, by omega⟩
    · rcases h1 with h1 | ⟨g', cap', cur, rfl, h5, hg', h6⟩
      · exact .inl h1
      · exact .inr ⟨g', cap', cur, rfl, h5, (far g' (lt_of_block hg') (h.d g' rfl)).trans hg', h6⟩
    · obtain ⟨p1, p2⟩ := h2 j a hj
      refine ⟨p1, p2.keep (fun b hb => ⟨⟨hb.1.1, Nat.lt_of_lt_of_le hb.1.2.1 hsz, hb.1.2.2⟩, fun e => ?_⟩) fun b i hb => World.cell?_of_block (w := w9) (a := ⟨b, i, none⟩) (far b hb.1.2.1 hb.2)⟩
      simp only [Value.ownBlock, Option.some.injEq] at e
      exact hne b hb.1.2.1 hb.2 e
  · rw [show txV (ts ++ [t]) = txV ts ++ [.string (B t.tx)] by simp [txV], List.length_append]
    exact G
  · intro b e1 e2
    simp only [Value.ownBlock, Option.some.injEq] at e2
    have := (h.x.le e1).2
    exact hne b this (h.d b e1) e2
/-- What the rows read as. -/
theorem WP.ex {w wr : World} {ts : List Tr} {vW vP : Value} (h : WP w wr ts vW vP) (hl : ts.length ≤ 1000) : S3.ER wr (Rn w.heap.size wr.heap.size) (ts.map Tr.ex) vW := by
  rcases h.x.done with ⟨h0, A, c, rfl⟩ | ⟨g, cap, V, rfl, hg, hr, hp⟩
  · rw [h0]
    exact S3.ER.nil _ _
  · exact S3.ER.of_row (V := V) hr ⟨hg, hr.lt⟩ (by rw [List.length_map]; omega) (fun i e hi => (hp i e hi).1) fun i e hi => (hp i e hi).2.keep (fun b hb => ⟨hb.1.1, hb.1.2.1⟩) fun _ _ _ => rfl
theorem txV_f (ts : List Tr) : txV ts = (List.range ts.length).map fun i => Value.string (B ((ts[i]?.map Tr.tx).getD [])) := by
  apply List.ext_getElem?
  intro i
  unfold txV
  rw [List.getElem?_map, List.getElem?_map]
  rcases Nat.lt_or_ge i ts.length with h | h
  · rw [List.getElem?_eq_getElem h, List.getElem?_range h]
    simp [List.getElem?_eq_getElem h]
  · rw [List.getElem?_eq_none h, List.getElem?_eq_none (by simpa using h)]
    rfl
/-- A cell of the texts' row. -/
theorem WP.tx {w wr : World} {ts : List Tr} {vW vP : Value} (h : WP w wr ts vW vP) (h0 : 0 < ts.length) : ∃ g c, vP = .slice (some ⟨g, 0, none⟩) ts.length c ∧ ts.length ≤ c ∧ g < wr.heap.size ∧ ∀ (i : Nat) t, ts[i]? = some t → wr.cell? ⟨g, i, none⟩ = some (.string (B t.tx)) := by
  obtain ⟨_, h1 | ⟨g, cap, cur, rfl, _, hg, h2, h3, h4, h5⟩⟩ := h.p
  · omega
  · refine ⟨g, cap, rfl, h2, lt_of_block hg, fun i t hi => ?_⟩
    have hlt := (List.getElem?_eq_some_iff.1 hi).1
    have h6 : (cur.toList.take (ts.length * 1))[i]? = some (.string (B t.tx)) := by rw [h5]; unfold txV; rw [List.getElem?_map, hi]; rfl
    rw [List.getElem?_take, if_pos (by omega)] at h6
    refine (cell_of_row wr _ i _ _ _ hg).trans ?_
    simpa using h6
theorem WP.nil {w wr : World} {vW vP : Value} (h : WP w wr [] vW vP) : ∃ A c, vP = .slice A 0 c := by
  obtain ⟨_, ⟨rfl, _⟩ | ⟨g, cap, cur, rfl, _⟩⟩ := h.p
  · exact ⟨none, 0, rfl⟩
  · exact ⟨_, cap, rfl⟩

/-! ### strings.Join -/
theorem joinB_is (l : List Bytes) : joinB l = Lib.join l [44, 32] := by
  induction l with
  | nil => rfl
  | cons p l ih =>
    cases l with
    | nil => simp [joinB, Lib.join, List.intercalate]
    | cons q l => rw [show joinB (p :: q :: l) = p ++ ([44, 32] ++ joinB (q :: l)) from rfl, ih]; simp [Lib.join, List.intercalate]
theorem join_calls {w wr : World} {ts : List Tr} {vW vP : Value} (h : WP w wr ts vW vP) (hl : ts.length ≤ 100) (hj : (joinB (ts.map Tr.tx)).length ≤ 1000000) (W : World) (hb : Below wr.heap.size wr W) :
    Calls Tryz.prog 22 #[vP, .string ⟨#[44, 32]⟩] W fun e w' => e = .returned (.string (B (joinB (ts.map Tr.tx)))) ∧ Below W.heap.size W w' := by
  rcases Nat.eq_zero_or_pos ts.length with h0 | h0
  · have := List.eq_nil_of_length_eq_zero h0
    subst this
    obtain ⟨A, c, rfl⟩ := h.nil
    exact (Any.strings_Join_none Tryz.lays156 Tryz.Builder_Extra_156 A c ⟨#[44, 32]⟩ W).mono fun e w' hx => ⟨hx.1, by rw [hx.2]; exact Below.refl _ _⟩
  · obtain ⟨g, c, rfl, hc, hg, hcell⟩ := h.tx h0
    have hm : ((ts.map fun t => B t.tx).map (·.data.toList)) = ts.map Tr.tx := by rw [List.map_map]; rfl
    have := Tryz.strings_Join g 0 c (ts.map fun t => B t.tx) ⟨#[44, 32]⟩ W (fun j x hx => by
        rw [List.getElem?_map] at hx
        obtain ⟨t, ht, rfl⟩ := Option.map_eq_some_iff.1 hx
        rw [Nat.zero_add]
        exact (hb.cell (p := ⟨g, j, none⟩) hg).trans (hcell j t ht)) (Nat.lt_of_lt_of_le hg hb.size) (by rw [List.length_map]; omega) (by rw [List.length_map]; exact hc)
        (by rw [hm]; show (Lib.join (ts.map Tr.tx) [44, 32]).length ≤ _; rw [← joinB_is]; omega)
    rw [List.length_map] at this
    refine this.mono fun e w' hx => ⟨?_, hx.2⟩
    rw [hx.1, hm]
    show Ending.returned (.string ⟨(Lib.join (ts.map Tr.tx) [44, 32]).toArray⟩) = _
    rw [← joinB_is]
end Go.Proofs.YtlhifbckmknijaaGreatDoor.E5

namespace Go.Proofs.YtlhifbckmknijaaGreatDoor.E5
open Go Go.RowKit Go.Proofs.YtlhifbckmknijaaGreatDoor

set_option maxRecDepth 100000 in
set_option maxHeartbeats 4000000 in
theorem eqfunc_calls (es : List Ex) (hx : ∀ e ∈ es, S3.exB e = true) (va vb : Value) (w : World) (hA : S3.EIn w w.heap.size es va) (hB : S3.EIn w w.heap.size es vb) (hG : S3.Glob w) :
    Calls Tryz.prog 24 #[va, vb, .func (.func 25) #[] #[]] w fun r w' => r = .returned (.bool true) ∧ Below w.heap.size w w' := by
  obtain ⟨A, c, rfl⟩ := hA.slice
  obtain ⟨A', c', rfl⟩ := hB.slice
  have hle := hA.le
  obtain ⟨_, ha⟩ := hA.at_
  obtain ⟨_, hb⟩ := hB.at_
  have HA := Lib.hid ha
  have HB := Lib.hid hb
  have HX := Lib.hid hx
  have HG := Lib.hid hG
  clear hA hB ha hb hx hG
  go_enter Tryz.func24, Tryz.ntmps24
  go_wp2_with fail
  go_loopw [17] (fun i wr => ∃ k : Nat, k ≤ es.length ∧ i = .int .i64 (k : Int) ∧ Hid (Below w.heap.size w wr)) (fun i _ => es.length - (intOf i).toNat)
  case atStart => exact ⟨0, by omega, rfl, Lib.hid (Below.refl _ _)⟩
  case round =>
    obtain ⟨k, hk, rfl, HW⟩ := hrel
    by_cases hlt : k < es.length
    · have hlt' : (k : Int) < (es.length : Int) := by omega
      obtain ⟨b1, o1, v1, hA1, hb1, hok, hc1, he1⟩ := HA.out k hlt
      obtain ⟨b2, o2, v2, hA2, hb2, _, hc2, he2⟩ := HB.out k hlt
      have hxk := HX.out es[k] (List.getElem_mem hlt)
      subst hA1
      subst hA2
      generalize es[k] = e at *
      obtain ⟨Aa, ca, rfl⟩ := he1.slice
      obtain ⟨Ab, cb, rfl⟩ := he2.slice
      obtain ⟨x0, x1, x2, x3, x4⟩ := hc1.keep fun i => HW.out.cell (p := ⟨b1, i, none⟩) hb1
      obtain ⟨y0, y1, y2, y3, y4⟩ := hc2.keep fun i => HW.out.cell (p := ⟨b2, i, none⟩) hb2
      have hE1 := (he1.keep HW.out.size (fun b i hb => HW.out.cell (p := ⟨b, i, none⟩) hb))
      have hE2 := (he2.keep HW.out.size (fun b i hb => HW.out.cell (p := ⟨b, i, none⟩) hb))
      have hbw1 : b1 < wr.heap.size := by have := HW.out.size; omega
      have hbw2 : b2 < wr.heap.size := by have := HW.out.size; omega
      have b12 := S3.bal2 wr (S3.eO e (.slice Aa e.args.length ca)) (S3.eO e (.slice Ab e.args.length cb))
      have HC := Lib.hid (same_true e hok hxk (.slice Aa e.args.length ca) (.slice Ab e.args.length cb) _ (hE1.up b12) (hE2.up b12) (HG.out.up (HW.out.trans (b12.mono HW.out.size))))
      have HB12 := Lib.hid (HW.out.trans (b12.mono HW.out.size))
      clear hc1 hc2 he1 he2 hE1 hE2 hok hxk b12
      go_wp2_with fail
      refine HC.out.mono ?_
      rintro E wy ⟨rfl, hb⟩
      have HWy := Lib.hid (HB12.out.trans (hb.mono HB12.out.size))
      clear hb
      go_wp2_with fail
      go_roundw
      case rel => exact ⟨k + 1, by omega, by go_num, HWy⟩
      case measure => simp [intOf]; omega
    · obtain rfl : k = es.length := by omega
      go_wp2_with fail
      go_ret
      exact ⟨rfl, HW.out⟩

/-! ### the drafts -/
/-- A slice of drafts. -/
def DrS (w : World) (v : Value) (L : List (List Nat)) : Prop := ∃ A c, v = .slice A L.length c ∧ L.length ≤ c ∧ c ≤ 9223372036854775807 ∧ ∀ (i : Nat) ds, L[i]? = some ds → ∃ b o vi, A = some ⟨b, o, none⟩ ∧ b < w.heap.size ∧ w.cell? ⟨b, o + i, none⟩ = some vi ∧ ByL w vi ds
def trL (L : List (List Nat)) (k : Nat) : List Tr := (L.take k).map fun ds => (mkT 2 (ds.take 20)).1
theorem trL_succ {L : List (List Nat)} {k : Nat} {ds : List Nat} (h : L[k]? = some ds) : trL L (k + 1) = trL L k ++ [(mkT 2 (ds.take 20)).1] := by
  unfold trL
  rw [List.take_add_one, h]
  simp
theorem trL_len {L : List (List Nat)} {k : Nat} (h : k ≤ L.length) : (trL L k).length = k := by unfold trL; rw [List.length_map, List.length_take, Nat.min_eq_left h]
theorem trL_ok {L : List (List Nat)} (h : ∀ ds ∈ L, ∀ x ∈ ds, x ≤ 255) (k : Nat) : ∀ t ∈ trL L k, t.ok ∧ t.lev ≤ 3 ∧ t.tx.length ≤ 150 := by
  intro t ht
  obtain ⟨ds, hds, rfl⟩ := List.mem_map.1 ht
  have h2 : ∀ x ∈ ds.take 20, x ≤ 255 := fun x hx => h ds (List.mem_of_mem_take hds) x (List.mem_of_mem_take hx)
  obtain ⟨h3, h4, _⟩ := mkT_ok 2 _ h2
  have := mkT_len 2 _ h2
  exact ⟨h3, by omega, by omega⟩
theorem joinB_len : ∀ l : List Bytes, (∀ p ∈ l, p.length ≤ 150) → (joinB l).length ≤ l.length * 152
  | [], _ => by simp [joinB]
  | [p], h => by have := h p (by simp); simp [joinB]; omega
  | p :: q :: l, h => by
    have h1 := h p (by simp)
    have h2 := joinB_len (q :: l) fun x hx => h x (by simp at hx ⊢; right; exact hx)
    rw [show joinB (p :: q :: l) = p ++ ([44, 32] ++ joinB (q :: l)) from rfl]
    simp at h2 ⊢
    omega
theorem tx_cons {t : Tr} (h : t.ok) : ∃ c q, t.tx = c :: q := by
  obtain ⟨x, r, e⟩ := tr_cons t h
  have h1 := tk_toks t h x (by rw [e]; simp)
  have h2 : t.tx = x.2 ++ tb r := by rw [← tr_tb, e, tb_cons]
  obtain ⟨h3, h4⟩ := h1
  cases hx : x.2 with
  | nil =>
    rw [hx] at h3
    have h6 : L4.tok [] = (0, []) := by kernel_rfl
    rw [h6] at h3
    exact absurd (Prod.mk.inj h3).1.symm h4
  | cons c q => exact ⟨c, q ++ tb r, by rw [h2, hx]; rfl⟩
theorem tlS_x : tlS [59, 32, 120] = [(4, [59]), (1, [120])] := by kernel_rfl
open Go.Proofs.YtlhifbckmknijaaGreatDoor.E6 (OkT restT argsT list_ok list_cut)
set_option maxRecDepth 100000 in
set_option maxHeartbeats 8000000 in
theorem lists_law (hWk : WorksR) (L : List (List Nat)) (v : Value) (w : World) (hL : DrS w v L) (hG : GlobA w) :
    Calls Tryz.prog 4 #[v] w fun e w' => e = .returned (.bool true) ∧ Below w.heap.size w w' := by
  obtain ⟨A, c, rfl, hlc, hc, hel⟩ := hL
  obtain ⟨n0, hk, hk1, hk2⟩ : ∃ k : Nat, min (L.length : Int) 6 = (k : Int) ∧ k ≤ L.length ∧ k ≤ 6 := ⟨min L.length 6, by omega, by omega, by omega⟩
  have hkc : n0 ≤ c := by omega
  have h255 : ∀ ds ∈ L, ∀ x ∈ ds, x ≤ 255 := fun ds hds => by
    obtain ⟨i, hi, rfl⟩ := List.getElem_of_mem hds
    obtain ⟨_, _, _, _, _, _, hB⟩ := hel i _ (List.getElem?_eq_getElem hi)
    obtain ⟨_, _, _, _, _, h, _⟩ := hB
    exact h
  have HOK := Lib.hid (trL_ok h255)
  have H255 := Lib.hid h255
  have HWk := Lib.hid hWk
  have HG := Lib.hid hG
  have HEL := Lib.hid hel
  have H0 := Lib.hid (show WP w w (trL L 0) (.slice none 0 0) (.slice none 0 0) from WP.start w)
  clear hG hWk hel h255
  go_enter Tryz.func4, Tryz.ntmps4
  try simp only [List.append_eq, List.cons_append, List.nil_append]
  go_wp2_with fail
  clear hk
  go_loopw [3, 4, 28] (fun vW vP i wr => ∃ k : Nat, k ≤ n0 ∧ i = .int .i64 (k : Int) ∧ Hid (WP w wr (trL L k) vW vP)) (fun _ _ i _ => n0 - (intOf i).toNat)
  case atStart => exact ⟨0, by omega, rfl, H0⟩
  case round =>
    clear H0
    obtain ⟨k, hkn, rfl, HI⟩ := hrel
    by_cases hlt : k < n0
    · have hlt' : (k : Int) < (n0 : Int) := by omega
      obtain ⟨ds, hds⟩ : ∃ ds, L[k]? = some ds := ⟨_, List.getElem?_eq_getElem (by omega)⟩
      have hdm := H255.out ds (List.mem_of_getElem? hds)
      obtain ⟨b, o, vi, hA, hbw, hce, hBy⟩ := HEL.out k ds hds
      subst hA
      have hce := (HI.out.bel.cell (p := ⟨b, o + k, none⟩) hbw).trans hce
      have hbw2 : b < wr.heap.size := by have := HI.out.bel.size; omega
      have hByr := hBy.bel HI.out.bel
      obtain ⟨Ai, ci, rfl, hli, hci, _, hcell⟩ := hByr
      obtain ⟨m, hm, hm1, hm2⟩ : ∃ m : Nat, min (ds.length : Int) 20 = (m : Int) ∧ m ≤ ds.length ∧ m ≤ 20 := ⟨min ds.length 20, by omega, by omega, by omega⟩
      have hmc : m ≤ ci := by omega
      have hBm : ∀ o, BySl (wr.alloc o) wr.heap.size wr.heap.size (.slice Ai m ci) (ds.take m) := fun o => by
        refine ⟨Ai, ci, by rw [List.length_take, Nat.min_eq_left hm1], by rw [List.length_take]; omega, by omega, fun i x hi => ?_⟩
        rw [List.getElem?_take] at hi
        split at hi
        · obtain ⟨b, o', e1, e2, e3⟩ := hcell i x hi
          exact ⟨hdm x (List.mem_of_getElem? hi), b, o', e1, by omega, e2, ((S3.bal wr o).cell (p := ⟨b, o' + i, none⟩) e2).trans e3⟩
        · cases hi
      have hts := trL_succ hds
      have hlen := trL_len (L := L) (k := k) (by omega)
      have htk : ds.take 20 = ds.take m := by
        rcases Nat.lt_or_ge ds.length 20 with h1 | h1
        · rw [show m = ds.length by omega, List.take_length, List.take_of_length_le (by omega)]
        · rw [show m = 20 by omega]
      rw [htk] at hts
      have h255k : ∀ x ∈ ds.take m, x ≤ 255 := fun x hx => hdm x (List.mem_of_mem_take hx)
      have HCl := Lib.hid (fun o => cloneD_calls (hBm o) (by simp) (by simp) (by rw [List.length_take]; omega))
      have HTS := Lib.hid hts
      have HLEN := Lib.hid hlen
      clear hBm hcell hds hdm hBy htk hts hlen
      generalize ds.take m = dk at *
      go_wp2_with fail
      refine (HCl.out _).mono ?_
      rintro e w1 ⟨v1, rfl, hv1, hb⟩
      have hrow := (hb.block wr.heap.size (by simp)).trans (heap_alloc_new wr _)
      have HB1 := Lib.hid (after (S3.bal wr _) hb)
      have hz1 : wr.heap.size < w1.heap.size := by have := hb.size; simp at this; omega
      have HD := Lib.hid (dr_start hrow hz1 hv1)
      have hfz : w1.frozen? ⟨wr.heap.size, 0, none⟩ = false := by unfold World.frozen?; rw [hrow]; rfl
      have hcl0 := (cell_of_row w1 _ 0 _ _ _ hrow).trans rfl
      obtain ⟨A1, c1, rfl, _, _, _⟩ := hv1
      have HB2 := Lib.hid (HB1.out.setCell (p := ⟨wr.heap.size, 0, none⟩) (Nat.le_refl _) (.slice A1 dk.length c1))
      have ok := mkT_ok 2 dk h255k
      have hlen := mkT_len 2 dk h255k
      have hMd := made_calls (M := w1.heap.size) (p := wr.heap.size) 2 3 dk (by decide) (by decide) h255k _ HD.out
      clear hb hrow HD
      go_wp2_with fail
      generalize w1.setCell ⟨wr.heap.size, 0, none⟩ (.slice A1 dk.length c1) = w2 at *
      refine hMd.mono ?_
      clear hMd
      rintro e w3 ⟨A3, k3, c3, rfl, hE3, _, hF3⟩
      have HB3 := Lib.hid (HB2.out.trans (frc_below hF3 (Nat.le_refl _) HB2.out.size))
      have okx := tr_okE ok.1
      have htx := text_calls (mkT 2 dk).1 ok.1 (by omega)
      have h2s := HB2.out.size
      generalize (mkT 2 dk).1 = t at *
      have b4 := S3.bal w3 (S3.eO t.ex (.slice A3 k3 c3))
      have b5 := E5.bal_dr (w3.alloc (S3.eO t.ex (.slice A3 k3 c3)))
      have hbW := after (after HB3.out b4) b5
      have hEW := er_mono (er_bel (er_bel hE3 b4) b5) (show wr.heap.size ≤ w2.heap.size by omega) (Nat.le_refl _)
      have hS0 := Lib.hid ((S3.EBox.new w3 t.ex (.slice A3 k3 c3)).keep b5 (by rw [S3.sz1]; omega))
      have hw3 : wr.heap.size ≤ w3.heap.size := HB3.out.size
      have hwd3 : (w3.alloc (S3.eO t.ex (.slice A3 k3 c3))).drew.heap.size = w3.heap.size + 1 := S3.sz1 _ _
      have HWD := Lib.hid hwd3
      obtain ⟨g, cap, w8, r8, X8, hs8, hf8⟩ := HI.out.appX hbW t okx hEW (by rw [HLEN.out]; omega)
      rw [HLEN.out] at r8 X8
      have hE8 : S3.EIn w8 w8.heap.size t.ex.args (.slice A3 k3 c3) := hEW.keep (fun b hb => Nat.lt_of_lt_of_le hb.2 hs8) fun b i hb => World.cell?_of_block (a := ⟨b, i, none⟩) (hf8 b hb.1 hb.2)
      have HT8 := Lib.hid (htx (.slice A3 k3 c3) w8 hE8 (HG.out.up X8.bel).e)
      have R8 := Lib.hid r8
      have HX8 := Lib.hid X8
      have HF8 := Lib.hid hf8
      have HS8 := Lib.hid hs8
      have HI0 := HI
      have HP := Lib.hid (fun b (hb : u4.ownBlock = some b) => (HI0.out.p.lt b hb).2)
      have qa0 := fun W1 (h : Hid (S3.EBox W1 w3.heap.size t.ex (.slice A3 k3 c3))) => h.out.c0
      have qa1 := fun W1 (h : Hid (S3.EBox W1 w3.heap.size t.ex (.slice A3 k3 c3))) => h.out.c1
      have qa2 := fun W1 (h : Hid (S3.EBox W1 w3.heap.size t.ex (.slice A3 k3 c3))) => h.out.c2
      have qa3 := fun W1 (h : Hid (S3.EBox W1 w3.heap.size t.ex (.slice A3 k3 c3))) => h.out.c3
      have qa4 := fun W1 (h : Hid (S3.EBox W1 w3.heap.size t.ex (.slice A3 k3 c3))) => h.out.c4
      clear hwd3 hE3 hF3 hbW hEW b4 b5 r8 X8 hs8 hf8 hE8 htx okx HCl hfz hcl0 ok hlen HI HI0
      go_wp2_with fail
      refine wp_region_noPanic ?_
      refine wp_region_held_drew (S := fun W1 => Hid (S3.EBox W1 w3.heap.size t.ex (.slice A3 k3 c3))) (by kernel_rfl) hS0 (fun hHeld => ?_)
      clear hS0
      generalize (w3.alloc (S3.eO t.ex (.slice A3 k3 c3))).drew = wd at *
      refine wpAnyH_take (i := 0) (oi := { dst := some 39, op := Go.Op.move (Go.Operand.tmp 3), type := 27, pos := "outright.go:179", after := #[], guard := none }) (v := ?_) rfl (by as_aux_lemma => kernel_rfl) (by as_aux_lemma => kernel_rfl) (by as_aux_lemma => kernel_rfl) (fun _ _ _ h => h) (Or.inl ⟨by rfl, ?_⟩) hHeld ?_
      rotate_left
      · (intro w hSw; (try dsimp only at hSw); go_simp; try with_reducible rfl)
      try simp only [Act.put, List.setIfInBounds_toArray, List.set_cons_zero, List.set_cons_succ]
      refine wpAnyH_take (i := 1) (oi := { dst := some 40, op := Go.Op.load 29 (Go.Operand.tmp 7), type := 29, pos := "outright.go:179", after := #[], guard := none }) (v := ?_) rfl (by as_aux_lemma => kernel_rfl) (by as_aux_lemma => kernel_rfl) (by as_aux_lemma => kernel_rfl) (fun _ _ _ h => h) (Or.inl ⟨by rfl, ?_⟩) hHeld ?_
      rotate_left
      · (intro w hSw; (try dsimp only at hSw); go_simp; try with_reducible rfl)
      try simp only [Act.put, List.setIfInBounds_toArray, List.set_cons_zero, List.set_cons_succ]
      refine wpAnyH_take (i := 4) (oi := { dst := some 43, op := Go.Op.move (Go.Operand.tmp 4), type := 44, pos := "outright.go:179", after := #[], guard := none }) (v := ?_) rfl (by as_aux_lemma => kernel_rfl) (by as_aux_lemma => kernel_rfl) (by as_aux_lemma => kernel_rfl) (fun _ _ _ h => h) (Or.inl ⟨by rfl, ?_⟩) hHeld ?_
      rotate_left
      · (intro w hSw; (try dsimp only at hSw); go_simp; try with_reducible rfl)
      try simp only [Act.put, List.setIfInBounds_toArray, List.set_cons_zero, List.set_cons_succ]
      refine wpAnyH_take (i := 5) (oi := { dst := some 44, op := Go.Op.load 29 (Go.Operand.tmp 7), type := 29, pos := "outright.go:179", after := #[], guard := none }) (v := ?_) rfl (by as_aux_lemma => kernel_rfl) (by as_aux_lemma => kernel_rfl) (by as_aux_lemma => kernel_rfl) (fun _ _ _ h => h) (Or.inl ⟨by rfl, ?_⟩) hHeld ?_
      rotate_left
      · (intro w hSw; (try dsimp only at hSw); go_simp; try with_reducible rfl)
      try simp only [Act.put, List.setIfInBounds_toArray, List.set_cons_zero, List.set_cons_succ]
      have hSa := Lib.hid (hHeld.out.keep (S3.bal wd (S3.eO t.ex (.slice A3 k3 c3))) (by rw [HWD.out]; omega))
      refine wpAnyH_ready (rs := [2]) (by as_aux_lemma => kernel_rfl) (List.cons_ne_nil _ _) ?_
      refine AllReadyH.cons (o := { dst := some 41, op := Go.Op.buildSlice 27 1 #[(0, Go.Operand.tmp 40)], type := 27, pos := "outright.go:179", after := #[{ on := 1, ground := Go.Ground.data }], guard := none }) rfl (fun K hK => ?_) AllReadyH.nil
      go_simp
      refine hK.out _ _ hSa (fun hHeld2 => ?_)
      clear hK K hHeld
      have hHeld := hHeld2
      clear hHeld2
      try simp only [Act.put, List.setIfInBounds_toArray, List.set_cons_zero, List.set_cons_succ]
      have hSb := Lib.hid (show S3.EBox w8 w3.heap.size t.ex (.slice A3 k3 c3) from by
        have hh := HF8.out w3.heap.size hw3 (by rw [HWD.out]; omega)
        obtain ⟨z0, z1, z2, z3, z4⟩ := hHeld.out
        have kk := fun i => (World.cell?_of_block (w := wd) (w' := w8) (a := ⟨w3.heap.size, i, none⟩) hh)
        have ka := fun i => (S3.bal wd (S3.eO t.ex (.slice A3 k3 c3))).cell (p := ⟨w3.heap.size, i, none⟩) (show w3.heap.size < wd.heap.size by rw [HWD.out]; omega)
        exact ⟨(kk 0).trans ((ka 0).symm.trans z0), (kk 1).trans ((ka 1).symm.trans z1), (kk 2).trans ((ka 2).symm.trans z2), (kk 3).trans ((ka 3).symm.trans z3), (kk 4).trans ((ka 4).symm.trans z4)⟩)
      refine wpAnyH_ready (rs := [3]) (by as_aux_lemma => kernel_rfl) (List.cons_ne_nil _ _) ?_
      refine AllReadyH.cons (o := { dst := some 42, op := Go.Op.call { callee := Go.Callee.builtin Go.Builtin.append, args := #[Go.Operand.tmp 39, Go.Operand.tmp 41], argTypes := #[27, 27] }, type := 27, pos := "outright.go:179", after := #[{ on := 0, ground := Go.Ground.data }, { on := 2, ground := Go.Ground.data }], guard := none }) rfl (fun K hK => ?_) AllReadyH.nil
      refine Lib.wp_append_run _ (.tmp 39) (.tmp 41) _ _ rfl _ _ rfl rfl _ _ R8.out ?_
      refine hK.out _ _ hSb (fun hHeld2 => ?_)
      clear hK K hHeld
      have hHeld := hHeld2
      clear hHeld2
      try simp only [Act.put, List.setIfInBounds_toArray, List.set_cons_zero, List.set_cons_succ]
      refine wpAnyH_ready (rs := [6]) (by as_aux_lemma => kernel_rfl) (List.cons_ne_nil _ _) ?_
      refine AllReadyH.cons (o := { dst := some 45, op := Go.Op.call { callee := Go.Callee.value (Go.Operand.func 21), args := #[Go.Operand.tmp 44], argTypes := #[29] }, type := 9, pos := "outright.go:179", after := #[{ on := 5, ground := Go.Ground.data }, { on := 3, ground := Go.Ground.chain }], guard := none }) rfl (fun K hK => ?_) AllReadyH.nil
      go_simp
      refine HT8.out.mono ?_
      rintro e w9 ⟨rfl, hb⟩
      have HX9 := Lib.hid (HX8.out.bl hb)
      have hz9 : w3.heap.size < w9.heap.size := by have := hb.size; have := HS8.out; rw [HWD.out] at this; omega
      have hSc := Lib.hid (hHeld.out.keep hb (by have := HS8.out; rw [HWD.out] at this; omega))
      clear hb
      go_wp2_with fail
      refine hK.out _ _ hSc (fun hHeld2 => ?_)
      clear hK K hHeld
      have hHeld := hHeld2
      clear hHeld2
      try simp only [Act.put, List.setIfInBounds_toArray, List.set_cons_zero, List.set_cons_succ]
      obtain ⟨g2, cap2, w10, r10, P10, hf10⟩ := HX9.out.appP (by rw [HLEN.out]; omega)
      rw [HLEN.out] at r10 P10
      rw [← HTS.out] at P10
      have R10 := Lib.hid r10
      have HP10 := Lib.hid P10
      have hSd := Lib.hid (hHeld.out.keep (S3.bal w9 (.cells #[.string (B t.tx)] 9)) hz9)
      have hSe := Lib.hid (show S3.EBox w10 w3.heap.size t.ex (.slice A3 k3 c3) from by
        have hh := hf10 w3.heap.size hz9 (fun e => by have := HP.out _ e; omega)
        obtain ⟨z0, z1, z2, z3, z4⟩ := hHeld.out
        have kk := fun i => (World.cell?_of_block (w := w9) (w' := w10) (a := ⟨w3.heap.size, i, none⟩) hh)
        exact ⟨(kk 0).trans z0, (kk 1).trans z1, (kk 2).trans z2, (kk 3).trans z3, (kk 4).trans z4⟩)
      clear r10 P10 hf10
      refine wpAnyH_ready (rs := [7]) (by as_aux_lemma => kernel_rfl) (List.cons_ne_nil _ _) ?_
      refine AllReadyH.cons (o := { dst := some 46, op := Go.Op.buildSlice 44 1 #[(0, Go.Operand.tmp 45)], type := 44, pos := "outright.go:179", after := #[{ on := 6, ground := Go.Ground.data }], guard := none }) rfl (fun K hK => ?_) AllReadyH.nil
      go_simp
      refine hK.out _ _ hSd (fun hHeld2 => ?_)
      clear hK K hHeld
      have hHeld := hHeld2
      clear hHeld2
      try simp only [Act.put, List.setIfInBounds_toArray, List.set_cons_zero, List.set_cons_succ]
      refine wpAnyH_ready (rs := [8]) (by as_aux_lemma => kernel_rfl) (List.cons_ne_nil _ _) ?_
      refine AllReadyH.cons (o := { dst := some 47, op := Go.Op.call { callee := Go.Callee.builtin Go.Builtin.append, args := #[Go.Operand.tmp 43, Go.Operand.tmp 46], argTypes := #[44, 44] }, type := 44, pos := "outright.go:179", after := #[{ on := 4, ground := Go.Ground.data }, { on := 7, ground := Go.Ground.data }, { on := 6, ground := Go.Ground.chain }], guard := none }) rfl (fun K hK => ?_) AllReadyH.nil
      refine Lib.wp_append_run _ (.tmp 43) (.tmp 46) _ _ rfl _ _ rfl rfl _ _ R10.out ?_
      refine hK.out _ _ hSe (fun hHeld2 => ?_)
      clear hK K hHeld
      have hHeld := hHeld2
      clear hHeld2
      try simp only [Act.put, List.setIfInBounds_toArray, List.set_cons_zero, List.set_cons_succ]
      refine wpAnyH_ready (rs := [9]) (by as_aux_lemma => kernel_rfl) (List.cons_ne_nil _ _) ?_
      refine AllReadyH.cons (o := { dst := some 3, op := Go.Op.assign (Go.Operand.tmp 42), type := 27, pos := "outright.go:179", after := #[{ on := 3, ground := Go.Ground.data }, { on := 8, ground := Go.Ground.chain }, { on := 0, ground := Go.Ground.phase }, { on := 1, ground := Go.Ground.phase }, { on := 2, ground := Go.Ground.phase }, { on := 3, ground := Go.Ground.phase }, { on := 4, ground := Go.Ground.textOnly Go.Departure.lateStores }, { on := 5, ground := Go.Ground.textOnly Go.Departure.lateStores }, { on := 6, ground := Go.Ground.textOnly Go.Departure.lateStoresUnsure }, { on := 7, ground := Go.Ground.textOnly Go.Departure.lateStores }, { on := 8, ground := Go.Ground.textOnly Go.Departure.lateStoresUnsure }], guard := none }) rfl (fun K hK => ?_) AllReadyH.nil
      go_simp
      refine hK.out _ _ hHeld (fun _ => ?_)
      clear hK K
      try simp only [Act.put, List.setIfInBounds_toArray, List.set_cons_zero, List.set_cons_succ]
      refine wpAnyH_ready (rs := [10]) (by as_aux_lemma => kernel_rfl) (List.cons_ne_nil _ _) ?_
      refine AllReadyH.cons (o := { dst := some 4, op := Go.Op.assign (Go.Operand.tmp 47), type := 44, pos := "outright.go:179", after := #[{ on := 8, ground := Go.Ground.data }, { on := 9, ground := Go.Ground.chain }, { on := 0, ground := Go.Ground.phase }, { on := 1, ground := Go.Ground.phase }, { on := 2, ground := Go.Ground.phase }, { on := 3, ground := Go.Ground.phase }, { on := 4, ground := Go.Ground.phase }, { on := 5, ground := Go.Ground.phase }, { on := 6, ground := Go.Ground.phase }, { on := 7, ground := Go.Ground.phase }, { on := 8, ground := Go.Ground.phase }, { on := 9, ground := Go.Ground.phase }], guard := none }) rfl (fun K hK => ?_) AllReadyH.nil
      go_simp
      refine hK.out _ _ hHeld (fun _ => ?_)
      clear hK K
      try simp only [Act.put, List.setIfInBounds_toArray, List.set_cons_zero, List.set_cons_succ]
      refine wpAnyH_done (by kernel_rfl) ?_ _
      refine NoPanic.normal ?_
      go_wp2_with fail
      go_round
      case rel => exact ⟨k + 1, by omega, by go_num, HP10⟩
      case measure => simp [intOf]; omega
    · obtain rfl : k = n0 := by omega
      have hts := HOK.out k
      have hlen := trL_len (L := L) (k := k) hk1
      generalize trL L k = ts at *
      have hokT : ∀ t ∈ ts, OkT t := fun t ht => ⟨(hts t ht).1, by have := (hts t ht).2.1; omega⟩
      have hok1 : ∀ t ∈ ts, t.ok := fun t ht => (hts t ht).1
      have hsl := joinB_len (ts.map Tr.tx) (fun p hp => by obtain ⟨t, ht, rfl⟩ := List.mem_map.1 hp; exact (hts t ht).2.2)
      rw [List.length_map] at hsl
      have hJ := join_calls HI.out (by omega) (by omega) wr (Below.refl _ _)
      have hT1 := tlS_list hok1
      have hT2 := tlS_comma hok1
      generalize joinB (ts.map Tr.tx) = s at *
      have hsl' : s.length ≤ 1000 := by omega
      have hx : ∀ e ∈ ts.map Tr.ex, S3.exB e = true := fun e he => by obtain ⟨t, ht, rfl⟩ := List.mem_map.1 he; exact (Tr.gd t (hok1 t ht)).exB (by have := (hts t ht).2.1; omega)
      have hS1 := fun W (hW : L4.Glob W) => scan_own (40 :: (s ++ [41])) (by simp; omega) W hW
      have hS2 := fun W (hW : L4.Glob W) => scan_own (40 :: (s ++ [44, 41])) (by simp; omega) W hW
      have hle1 := tlS_len (40 :: (s ++ [41]))
      have hle2 := tlS_len (40 :: (s ++ [44, 41]))
      unfold ScanO at hS1 hS2
      rw [hT1] at hS1 hle1
      rw [hT2] at hS2 hle2
      have hL1 : listR (argsT ts ++ [(4, [59]), (1, [120])]) 0 0 = .ok (ts.map Tr.ex) (argsT ts).length := by
        have := list_ok (l := argsT ts ++ [(4, [59]), (1, [120])]) hokT (i := 0) (post := [(4, [59]), (1, [120])]) rfl
        rwa [Nat.zero_add] at this
      obtain ⟨N, hN, hN1⟩ : ∃ N, (argsT ts).length = N + 1 ∧ 1 ≤ N := by
        have h1 : (argsT ts).length = (restT ts).length + 1 := rfl
        have h2 := E6.restT_pos ts
        exact ⟨(restT ts).length, h1, h2⟩
      have hL2 : listR ((argsT ts).take N) 0 0 = .bad N 7 := by
        have := list_cut (l := (argsT ts).take N) (rest := []) hokT (.inl rfl) (i := 0) (c := N) (Nat.zero_le _) (by omega) (by simp)
        rwa [Nat.zero_add] at this
      obtain ⟨M, hL3, hM⟩ : ∃ M, listR (commaT ts) 0 0 = .bad M 7 ∧ ((ts = [] ∧ M = 1) ∨ (ts ≠ [] ∧ M = N + 1)) := by
        by_cases h0 : ts = []
        · subst h0
          exact ⟨1, comma_none, .inl ⟨rfl, rfl⟩⟩
        · exact ⟨N + 1, by rw [comma_some h0 hokT, hN], .inr ⟨h0, rfl⟩⟩
      have hL4 : (ts = [] ∧ listR (restT ts) 0 0 = .bad 0 7) ∨ (∃ t r c0 q, ts = t :: r ∧ t.tx = c0 :: q ∧ c0 ≠ 40 ∧ listR (restT ts) 0 0 = .bad 0 7) ∨ ∃ t r q, ts = t :: r ∧ t.tx = 40 :: q := by
        by_cases h0 : ts = []
        · subst h0
          exact .inl ⟨rfl, front_some (by decide)⟩
        · obtain ⟨t, r, rfl⟩ : ∃ t r, ts = t :: r := by
            cases ts with
            | nil => exact absurd rfl h0
            | cons t r => exact ⟨t, r, rfl⟩
          obtain ⟨c0, q, hq⟩ := tx_cons (hok1 t (by simp))
          by_cases hc : c0 = 40
          · subst hc
            exact .inr (.inr ⟨t, r, q, rfl, hq⟩)
          · exact .inr (.inl ⟨t, r, c0, q, rfl, hq, hc, front_some (front_byte (hok1 t (by simp)) fun q' e => hc (by rw [hq] at e; exact (List.cons.inj e).1))⟩)
      have hdrop : (argsT ts).drop 1 = restT ts := rfl
      have hcat : ((⟨#[40]⟩ : ByteArray) ++ B s ++ ⟨#[41]⟩) = B (40 :: (s ++ [41])) := by
        show B [40] ++ B s ++ B [41] = _
        rw [B_two, B_two]
        simp
      have hcat2 : ((⟨#[40]⟩ : ByteArray) ++ B s ++ ⟨#[44, 41]⟩) = B (40 :: (s ++ [44, 41])) := by
        show B [40] ++ B s ++ B [44, 41] = _
        rw [B_two, B_two]
        simp
      have m1 : ¬ 9223372036854775807 < 1 + s.length := by omega
      have m2 : ¬ 9223372036854775807 < 1 + s.length + 1 := by omega
      have m3 : ¬ 9223372036854775807 < 1 + s.length + 2 := by omega
      have hE0 := er_in (HI.out.ex (by omega)) (Nat.le_refl _)
      obtain ⟨Aw, cw, hvw⟩ := hE0.slice
      rw [List.length_map, hlen] at hvw
      subst hvw
      have HE0 := Lib.hid hE0
      have HS1 := Lib.hid hS1
      have HS2 := Lib.hid hS2
      have HN := Lib.hid hN
      have HL1 := Lib.hid hL1
      have HL2 := Lib.hid hL2
      have HL3 := Lib.hid hL3
      have HL4 := Lib.hid hL4
      have HDR := Lib.hid hdrop
      have HM := Lib.hid hM
      have HX := Lib.hid hx
      have HJ := Lib.hid hJ
      have HC1 := Lib.hid hcat
      have HC2 := Lib.hid hcat2
      have HLN := Lib.hid hlen
      have hN10 : N ≤ 2000 := by simp at hle1; omega
      have hcm10 : (commaT ts).length ≤ 2000 := by simp at hle2; omega
      clear hts hlen hokT hok1 hsl hJ hT1 hT2 hx hS1 hS2 hle1 hle2 hL1 hL2 hL3 hL4 hdrop hcat hcat2 hE0 hM hN H255 HOK HEL
      go_wp2_with fail
      refine HJ.out.mono ?_
      rintro e w1 ⟨rfl, hb⟩
      have HB1 := Lib.hid (after HI.out.bel hb)
      have HE1 := Lib.hid (HE0.out.up hb)
      have HI1 := Lib.hid (HI.out.bl hb)
      clear hb HE0 HJ HI
      go_wp2_with fail
      rw [HC1.out]
      refine (HS1.out w1 (HG.out.up HB1.out).l).mono ?_
      rintro e w2 ⟨A2, c2, rfl, hc2, hc2', hGr, hb⟩
      rw [HN.out] at hc2 hGr
      rw [HN.out]
      have hTk2 := tokL_grA hGr (by rw [HN.out]; omega)
      have HB2 := Lib.hid (after HB1.out hb)
      have HE2 := Lib.hid (HE1.out.up hb)
      have HI2 := Lib.hid (HI1.out.bl hb)
      have HT2 := Lib.hid hTk2
      obtain ⟨tb', og, hA2⟩ : ∃ b o, A2 = some ⟨b, o, none⟩ := by
        obtain ⟨A', c', e1, _, e3⟩ := hTk2
        obtain ⟨h1, _, _⟩ := Value.slice.inj e1
        obtain ⟨_, b, o, _, e4, _⟩ := e3 0 (4, [40]) rfl
        exact ⟨b, o, h1.trans e4⟩
      subst hA2
      clear hb HE1 HI1 hGr hTk2 HS1
      go_wp2_with fail
      refine (cloneT_calls HT2.out (by rw [HN.out]; omega)).mono ?_
      rintro e w3 ⟨v3, rfl, hG3, hb⟩
      have HB3 := Lib.hid (after HB2.out hb)
      have HG3 := Lib.hid hG3
      have HK3 := Lib.hid hb
      clear hb hG3
      go_wp2_with fail
      have hSx := scan_own [59, 32, 120] (by decide) w3 (HG.out.up HB3.out).l
      unfold ScanO at hSx
      rw [tlS_x] at hSx
      refine hSx.mono ?_
      clear hSx
      rintro e w4 ⟨A4, c4, rfl, _, _, hG4, hb⟩
      have hTx4 := tokL_grA hG4 (by decide)
      obtain ⟨v5, w5, r5, hG5, hb5⟩ := cat_run (HG3.out.bel hb) hTx4 (by rw [HN.out]; simp; omega) 22
      have R5 := Lib.hid r5
      have hk5 := (after HK3.out hb).trans hb5
      have HK5 := Lib.hid hk5
      have HB5 := Lib.hid (after HB2.out hk5)
      have HE5 := Lib.hid (HE2.out.up hk5)
      have HI5 := Lib.hid (HI2.out.bl hk5)
      have HT5 := Lib.hid (tokL_up HT2.out hk5)
      have hll5 : (argsT ts ++ [(4, [59]), (1, [120])]).length ≤ 1000000 := by rw [List.length_append, HN.out]; simp; omega
      have hP5 := list_calls (i := 0) (d := 0) (tokL_grA hG5 hll5) (HG.out.up HB5.out).e (Nat.zero_le _) (by decide) hll5
      rw [HL1.out, HN.out] at hP5
      have HP5 := Lib.hid hP5
      clear hb hG4 hTx4 r5 hG5 hb5 hk5 hll5 hP5 HG3 HK3 HB3 HE2 HI2
      go_wp2_with (at_builtin; refine Lib.wpList_append_run _ rfl _ _ _ _ rfl _ _ rfl rfl _ _ R5.out ?_)
      refine HP5.out.mono ?_
      rintro E w6 ⟨A6, c6, hE6, hr6, hb⟩
      rw [List.length_map, HLN.out] at hE6 hr6
      subst hE6
      have HB6 := Lib.hid (after HB5.out hb)
      have HE6 := Lib.hid (HE5.out.up hb)
      have HI6 := Lib.hid (HI5.out.bl hb)
      have HT6 := Lib.hid (tokL_up HT5.out hb)
      have HR6 := Lib.hid (er_in hr6 (Nat.le_refl _))
      clear hb hr6 HP5 R5 HK5 HE5 HI5 HT5
      go_wp2_with fail
      refine (eqfunc_calls (ts.map Tr.ex) HX.out _ _ w6 HR6.out HE6.out (HG.out.up HB6.out).e.s).mono ?_
      rintro E w7 ⟨rfl, hb⟩
      have HB7 := Lib.hid (after HB6.out hb)
      have HI7 := Lib.hid (HI6.out.bl hb)
      have HT7 := Lib.hid (tokL_up HT6.out hb)
      clear hb HR6 HE6 HI6 HT6
      have hT7 : TokL w7 w7.heap.size (.slice (some ⟨tb', og, none⟩) (argsT ts).length c2) (argsT ts) := by rw [HN.out]; exact HT7.out
      have htl : ((argsT ts).take N).length ≤ 1000000 := by rw [List.length_take]; omega
      have hP8 := list_calls (i := 0) (d := 0) (tokTake hT7 (k := N) (by rw [HN.out]; omega)) (HG.out.up HB7.out).e (Nat.zero_le _) (by decide) htl
      rw [HL2.out] at hP8
      have HP8 := Lib.hid hP8
      have hNc : (N : Int) ≤ (c2 : Int) := by omega
      have hN1' : ((N + 1 : Nat) : Int) - 1 = (N : Int) := by omega
      clear hT7 htl hP8
      go_wp2_with fail
      refine HP8.out.mono ?_
      rintro E w8 ⟨rfl, hb⟩
      have HB8 := Lib.hid (after HB7.out hb)
      have HI8 := Lib.hid (HI7.out.bl hb)
      have HT8 := Lib.hid (tokL_up HT7.out hb)
      clear hb HP8 HI7 HT7
      go_wp2_with fail
      rw [HC2.out]
      refine (HS2.out w8 (HG.out.up HB8.out).l).mono ?_
      rintro e w9 ⟨A9, c9, rfl, _, _, hG9, hb⟩
      have HB9 := Lib.hid (after HB8.out hb)
      have HI9 := Lib.hid (HI8.out.bl hb)
      have HT9 := Lib.hid (tokL_up HT8.out hb)
      have hP9 := list_calls (i := 0) (d := 0) (tokL_grA hG9 (by omega)) (HG.out.up HB9.out).e (Nat.zero_le _) (by decide) (by omega)
      rw [HL3.out] at hP9
      have HP9 := Lib.hid hP9
      clear hb hG9 hP9 HI8 HT8
      go_wp2_with fail
      refine HP9.out.mono ?_
      rintro E w10 ⟨rfl, hb⟩
      have HB10 := Lib.hid (after HB9.out hb)
      have HI10 := Lib.hid (HI9.out.bl hb)
      have HT10 := Lib.hid (tokL_up HT9.out hb)
      clear hb HP9 HI9 HT9
      have hT11 : TokL w10 w10.heap.size (.slice (some ⟨tb', og + 3, none⟩) N (c2 - 1)) (restT ts) := tokDrop (j := 1) HT10.out (by rw [HN.out]; omega)
      have hrl : (restT ts).length ≤ 1000000 := by have : (argsT ts).length = (restT ts).length + 1 := rfl; have := HN.out; omega
      have hP11 := list_calls (i := 0) (d := 0) hT11 (HG.out.up HB10.out).e (Nat.zero_le _) (by decide) hrl
      have q : ∀ W, (Instr.slice 22 (.slice (some ⟨tb', og, none⟩) (N + 1) c2) (some (.int .i64 1)) none none).run Tryz.prog W = .ok (.slice (some ⟨tb', og + 3, none⟩) N (c2 - 1)) W := fun W => slice_tok W tb' og (N + 1) c2 1 (by omega) (by omega)
      clear hT11 hrl
      go_wp2_with fail
      rcases HL4.out with ⟨hts, hr⟩ | ⟨t, r, c0, qs, hts, htx, hc0, hr⟩ | ⟨t, r, qs, hts, htx⟩
      · rw [hr] at hP11
        refine hP11.mono ?_
        clear hP11
        rintro E w11 ⟨rfl, hb⟩
        have HB11 := Lib.hid (after HB10.out hb)
        have HI11 := Lib.hid (HI10.out.bl hb)
        clear hb HI10 HT10
        have hk0 : k = 0 := by have := HLN.out; rw [hts] at this; simpa using this.symm
        subst hk0
        have hMM : M = 1 := by
          rcases HM.out with ⟨_, h2⟩ | ⟨h1, _⟩
          · exact h2
          · exact absurd hts h1
        subst hMM
        clear hr hts
        go_wp2_with fail
        refine (HWk.out _ (HG.out.up HB11.out)).mono ?_
        rintro E wz ⟨rfl, hb⟩
        have HZ := Lib.hid (after HB11.out hb)
        clear hb
        go_wp2_with fail
        go_ret
        exact ⟨rfl, HZ.out⟩
      · subst hts
        rw [hr] at hP11
        refine hP11.mono ?_
        clear hP11
        rintro E w11 ⟨rfl, hb⟩
        have HB11 := Lib.hid (after HB10.out hb)
        have HI11 := Lib.hid (HI10.out.bl hb)
        clear hb HI10 HT10
        have hk0 : 0 < (t :: r).length := by simp
        obtain ⟨gp, cp, hvp, hcp, hgp, hcell⟩ := HI11.out.tx hk0
        have hcl0 := hcell 0 t rfl
        rw [HLN.out] at hvp
        subst hvp
        have hkk : ((k : Int) == 0) = false := beq_eq_false_iff_ne.2 (by have := HLN.out; simp at this; omega)
        have hk00 : (0 : Int) < (k : Int) := by have := HLN.out; simp at this; omega
        have hMM : M = N + 1 := by
          rcases HM.out with ⟨h1, _⟩ | ⟨_, h2⟩
          · cases h1
          · exact h2
        subst hMM
        rw [htx] at hcl0
        clear hcell hk0 htx
        have hq40 : (((c0.toNat : Nat) : Int) == 40) = false := beq_eq_false_iff_ne.2 (fun e => hc0 (by apply UInt8.toNat_inj.1; simp; omega))
        have hb0 : 0 < (B (c0 :: qs)).size := by rw [L4.B_size]; simp
        have hcx : ((B (c0 :: qs))[0]'hb0) = c0 := rfl
        clear hr
        go_wp2_with fail
        refine (HWk.out _ (HG.out.up HB11.out)).mono ?_
        rintro E wz ⟨rfl, hb⟩
        have HZ := Lib.hid (after HB11.out hb)
        clear hb
        go_wp2_with fail
        go_ret
        exact ⟨rfl, HZ.out⟩
      · subst hts
        generalize listR (restT (t :: r)) 0 0 = rr at *
        cases rr with
        | bad j cc =>
          refine hP11.mono ?_
          clear hP11
          rintro E w11 ⟨rfl, hb⟩
          have HB11 := Lib.hid (after HB10.out hb)
          have HI11 := Lib.hid (HI10.out.bl hb)
          clear hb HI10 HT10
          have hk0 : 0 < (t :: r).length := by simp
          obtain ⟨gp, cp, hvp, hcp, hgp, hcell⟩ := HI11.out.tx hk0
          have hcl0 := hcell 0 t rfl
          rw [HLN.out] at hvp
          subst hvp
          have hkk : ((k : Int) == 0) = false := beq_eq_false_iff_ne.2 (by have := HLN.out; simp at this; omega)
          have hk00 : (0 : Int) < (k : Int) := by have := HLN.out; simp at this; omega
          have hMM : M = N + 1 := by
            rcases HM.out with ⟨h1, _⟩ | ⟨_, h2⟩
            · cases h1
            · exact h2
          subst hMM
          rw [htx] at hcl0
          clear hcell hk0 htx
          have hb0 : 0 < (B (40 :: qs)).size := by rw [L4.B_size]; simp
          have hcx : ((B (40 :: qs))[0]'hb0) = 40 := rfl
          go_wp2_with fail
          refine (HWk.out _ (HG.out.up HB11.out)).mono ?_
          rintro E wz ⟨rfl, hb⟩
          have HZ := Lib.hid (after HB11.out hb)
          clear hb
          go_wp2_with fail
          go_ret
          exact ⟨rfl, HZ.out⟩
        | ok es nn =>
          refine hP11.mono ?_
          clear hP11
          rintro E w11 ⟨Az, cz, rfl, _, hb⟩
          have HB11 := Lib.hid (after HB10.out hb)
          have HI11 := Lib.hid (HI10.out.bl hb)
          clear hb HI10 HT10
          have hk0 : 0 < (t :: r).length := by simp
          obtain ⟨gp, cp, hvp, hcp, hgp, hcell⟩ := HI11.out.tx hk0
          have hcl0 := hcell 0 t rfl
          rw [HLN.out] at hvp
          subst hvp
          have hkk : ((k : Int) == 0) = false := beq_eq_false_iff_ne.2 (by have := HLN.out; simp at this; omega)
          have hk00 : (0 : Int) < (k : Int) := by have := HLN.out; simp at this; omega
          have hMM : M = N + 1 := by
            rcases HM.out with ⟨h1, _⟩ | ⟨_, h2⟩
            · cases h1
            · exact h2
          subst hMM
          rw [htx] at hcl0
          clear hcell hk0 htx
          have hb0 : 0 < (B (40 :: qs)).size := by rw [L4.B_size]; simp
          have hcx : ((B (40 :: qs))[0]'hb0) = 40 := rfl
          go_wp2_with fail
          refine (HWk.out _ (HG.out.up HB11.out)).mono ?_
          rintro E wz ⟨rfl, hb⟩
          have HZ := Lib.hid (after HB11.out hb)
          clear hb
          go_wp2_with fail
          go_ret
          exact ⟨rfl, HZ.out⟩
end Go.Proofs.YtlhifbckmknijaaGreatDoor.E5

namespace Go.Proofs.YtlhifbckmknijaaGreatDoor.E5
open Go Go.ChangeShapes Go.WideShapes Go.ChangeAt Go.RowKit Go.Joins Go.Proofs.YtlhifbckmknijaaGreatDoor

section
variable {H : Type} {enc : TypeId × Value → H} {w : World} {base : Nat} {spare : Nat → Bool} {held : Bool}
theorem open_drafts {fuel : Nat} {cs : List Value} {x : DataW H × List MemPlace} (h : DataW.trod enc Tryz.prog w base spare held fuel 43 cs = some x) : ∃ l v, cs = [v] ∧ DrS w v l := by
  rcases DataW.trod_slice Tryz.underlying43 h with ⟨rfl, _⟩ | ⟨a, len, cap, elems, rest, n, hf, rfl, _, hb, hl, hm, hlen, hel, _, _⟩
  · exact ⟨[], _, rfl, none, 0, rfl, by decide, by decide, (fun i t hi => by simp at hi)⟩
  · have q1 : Tryz.prog.cellsOf 46 = 1 := by kernel_rfl
    rw [q1] at hel
    unfold maxLen at hm
    by_cases hz : len = 0
    · subst hz
      exact ⟨[], _, rfl, _, _, rfl, hl, hm, (fun i t hi => by simp at hi)⟩
    obtain ⟨b, off, spot⟩ := a
    have one : ∀ i, i < len → ∃ (vi : Value) (ds : List Nat), b < w.heap.size ∧ w.cell? ((⟨b, off, spot⟩ : Addr).add (i * 1)) = some vi ∧ ByL w vi ds := by
      intro i hi
      have h1 := hel i hi
      rw [List.getElem?_eq_getElem (by omega)] at h1
      obtain ⟨cs', hc, ht⟩ := Option.bind_eq_some_iff.1 h1
      obtain ⟨_, hlc, hcell⟩ := World.cells?_some hc
      obtain ⟨ds, vi, rfl, hB⟩ := open_bytes Tryz.underlying46 ht
      have c0 := hcell 0 (by decide)
      have c0' : w.cell? (((⟨b, off, spot⟩ : Addr).add (i * 1)).add 0) = some vi := c0
      have e0 : ∀ a : Addr, a.add 0 = a := fun a => by unfold Addr.add; simp
      rw [e0] at c0'
      refine ⟨vi, ds, ?_, c0', hB⟩
      have := World.block_lt_of_cell? _ _ c0'
      unfold Addr.add at this
      split at this <;> exact this
    have hspot : spot = none := by
      obtain ⟨vi, ds, _, hc, A, c, rfl, _⟩ := one 0 (by omega)
      simpa [Addr.add] using World.cell?_spot hc
    subst hspot
    have each : ∀ i, ∃ ds : List Nat, i < len → ∃ vi, b < w.heap.size ∧ w.cell? ⟨b, off + i, none⟩ = some vi ∧ ByL w vi ds := by
      intro i
      by_cases hi : i < len
      · obtain ⟨vi, ds, h1, h2, h3⟩ := one i hi
        rw [add_plain3, Nat.mul_one] at h2
        exact ⟨ds, fun _ => ⟨vi, h1, h2, h3⟩⟩
      · exact ⟨[], fun h => absurd h hi⟩
    obtain ⟨E, hE⟩ := Classical.axiomOfChoice each
    have hlr : ((List.range len).map E).length = len := by simp
    refine ⟨(List.range len).map E, _, rfl, some ⟨b, off, none⟩, cap, by rw [hlr], by rw [hlr]; exact hl, hm, fun i t hi => ?_⟩
    have hi' := (List.getElem?_eq_some_iff.1 hi).1
    rw [hlr] at hi'
    rw [List.getElem?_map, List.getElem?_range hi'] at hi
    obtain rfl := (Option.some.inj hi).symm
    obtain ⟨vi, h2, h3, h4⟩ := hE i hi'
    exact ⟨b, off, vi, rfl, h2, h3, h4⟩
end
end Go.Proofs.YtlhifbckmknijaaGreatDoor.E5
