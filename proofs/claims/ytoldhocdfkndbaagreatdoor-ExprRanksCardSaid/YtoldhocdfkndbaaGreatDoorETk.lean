/-
  Tokens as rows; slices.Clone of tokens and of drafts: contracts. Written by gen5_tk.py.
  The law's scan: its tokens lie in a row of their own.
  Tokens that are put behind others: what append gives; slices.Grow and slices.Concat of tokens: contracts.
-/
import Derived.Test.YtoldhocdfkndbaaGreatDoorERow
import Derived.Test.YtoldhocdfkndbaaGreatDoorEDrC
import Derived.Test.YtoldhocdfkndbaaGreatDoorSGrow
import Derived.Test.YtoldhocdfkndbaaGreatDoorLScan
import Derived.Lib.AppendZerosOnto
import Derived.Lib.AppendZeros
import Derived.Maps.AppendAt
namespace Go.Proofs.YtoldhocdfkndbaaGreatDoor.E5
open Go Go.RowKit Go.Proofs.YtoldhocdfkndbaaGreatDoor

theorem infoU8 : (Tryz.prog.info? 5).map (fun i => (i.zero, i.size, i.bytes)) = some (some (.int .u8 0), 1, 1) := by kernel_rfl
set_option maxRecDepth 100000 in
set_option maxHeartbeats 1000000 in
theorem cloneTk (rows : List (List Value)) (hlen : ∀ r ∈ rows, r.length = 3) (h1 : ∀ u ∈ rows.flatten, u.oneCell' = true) (hn : rows.length ≤ 1000000) (A : Option Addr) (c : Nat) (w : World)
    (hrd : 0 < rows.length → ∃ b o, A = some ⟨b, o, none⟩ ∧ b < w.heap.size ∧ ∀ j u, rows.flatten[j]? = some u → w.cell? ⟨b, o + j, none⟩ = some u) :
    Calls Tryz.prog 31 #[.slice A rows.length c] w fun e w' => ∃ v', e = .returned v' ∧ w'.ownsRow w.heap.size 44 3 v' rows.length rows.flatten ∧ Below w.heap.size w w' := by
  have q := fun W a n c => run_eql_slice_nil (P := Tryz.prog) W 35 44 a n c Tryz.underlying35
  have HF := Lib.hid (S3.flat_len hlen)
  have H1 := Lib.hid h1
  have HL := Lib.hid hlen
  have HR := Lib.hid hrd
  have HG := Lib.hid (show (w.alloc (.cells #[] 44)).ownsRow w.heap.size 44 3 (.slice (some ⟨w.heap.size, 0, none⟩) 0 0) 0 [] from
    ⟨by simp, .inr ⟨w.heap.size, 0, #[], rfl, Nat.le_refl _, heap_alloc_new w _, Nat.le_refl _, by unfold maxLen; omega, by simp, by simp⟩⟩)
  obtain ⟨i0, hi, hz0, hz1, hz2⟩ := L4.info_partsT L4.infoTok
  clear hlen h1 hrd
  cases A with
  | none =>
    have hr : rows = [] := by
      rcases rows with _ | ⟨r, rows⟩
      · rfl
      · obtain ⟨b, o, h, _⟩ := HR.out (by simp)
        cases h
    subst hr
    go_enter Tryz.func31, Tryz.ntmps31
    go_wp2_with fail
    go_ret
    exact ⟨_, rfl, by simpa using World.ownsRow_nil w w.heap.size 44 3, Below.refl _ _⟩
  | some a =>
    have hnews : ∀ j u, rows.flatten[j]? = some u → ∀ o', (w.alloc o').cell? (a.add j) = some u := by
      intro j u hu o'
      have h0 : 0 < rows.length := by
        rcases rows with _ | ⟨r, rows⟩
        · simp at hu
        · simp
      obtain ⟨b, o, h, hb, hc⟩ := HR.out h0
      cases h
      rw [show (Addr.add ⟨b, o, none⟩ j) = ⟨b, o + j, none⟩ by unfold Addr.add; split <;> simp_all]
      exact ((S3.bal w o').cell (p := ⟨b, o + j, none⟩) hb).trans (hc j u hu)
    have HN := Lib.hid hnews
    clear hnews HR
    go_enter Tryz.func31, Tryz.ntmps31
    go_wp2_with (at_builtin; refine wpList_append_own _ rfl (.tmp 5) (.tmp 6) 35 rfl w.heap.size 44 i0 _ 3 32 Tryz.underlying35 hi hz0 hz1 hz2 rfl (by decide) _ 0 [] rfl HG.out a rows.length c rows.flatten rfl HF.out (fun j u hu => HN.out j u hu _) H1.out (by unfold maxLen; omega) (by omega) (by simp) ?_)
    intro v' w1 hown hgrow _
    have hb : Below w.heap.size w w1 := (S3.bal w _).grown hgrow (by simp) (by rintro k hk; simp [Value.ownBlock] at hk; omega)
    have hown2 : w1.ownsRow w.heap.size 44 3 v' rows.length rows.flatten := by simpa using hown
    have HF2 := Lib.hid (And.intro hown2 hb)
    clear hown hown2 hgrow hb
    go_wp2
    go_ret
    exact ⟨_, rfl, HF2.out.1, HF2.out.2⟩
set_option maxRecDepth 100000 in
set_option maxHeartbeats 1000000 in
theorem cloneDr (rows : List (List Value)) (hlen : ∀ r ∈ rows, r.length = 1) (h1 : ∀ u ∈ rows.flatten, u.oneCell' = true) (hn : rows.length ≤ 1000000) (A : Option Addr) (c : Nat) (w : World)
    (hrd : 0 < rows.length → ∃ b o, A = some ⟨b, o, none⟩ ∧ b < w.heap.size ∧ ∀ j u, rows.flatten[j]? = some u → w.cell? ⟨b, o + j, none⟩ = some u) :
    Calls Tryz.prog 20 #[.slice A rows.length c] w fun e w' => ∃ v', e = .returned v' ∧ w'.ownsRow w.heap.size 5 1 v' rows.length rows.flatten ∧ Below w.heap.size w w' := by
  have q := fun W a n c => run_eql_slice_nil (P := Tryz.prog) W 28 5 a n c Tryz.underlying28
  have HF := Lib.hid (S3.flat_len hlen)
  have H1 := Lib.hid h1
  have HL := Lib.hid hlen
  have HR := Lib.hid hrd
  have HG := Lib.hid (show (w.alloc (.cells #[] 5)).ownsRow w.heap.size 5 1 (.slice (some ⟨w.heap.size, 0, none⟩) 0 0) 0 [] from
    ⟨by simp, .inr ⟨w.heap.size, 0, #[], rfl, Nat.le_refl _, heap_alloc_new w _, Nat.le_refl _, by unfold maxLen; omega, by simp, by simp⟩⟩)
  obtain ⟨i0, hi, hz0, hz1, hz2⟩ := L4.info_partsT infoU8
  clear hlen h1 hrd
  cases A with
  | none =>
    have hr : rows = [] := by
      rcases rows with _ | ⟨r, rows⟩
      · rfl
      · obtain ⟨b, o, h, _⟩ := HR.out (by simp)
        cases h
    subst hr
    go_enter Tryz.func20, Tryz.ntmps20
    go_wp2_with fail
    go_ret
    exact ⟨_, rfl, by simpa using World.ownsRow_nil w w.heap.size 5 1, Below.refl _ _⟩
  | some a =>
    have hnews : ∀ j u, rows.flatten[j]? = some u → ∀ o', (w.alloc o').cell? (a.add j) = some u := by
      intro j u hu o'
      have h0 : 0 < rows.length := by
        rcases rows with _ | ⟨r, rows⟩
        · simp at hu
        · simp
      obtain ⟨b, o, h, hb, hc⟩ := HR.out h0
      cases h
      rw [show (Addr.add ⟨b, o, none⟩ j) = ⟨b, o + j, none⟩ by unfold Addr.add; split <;> simp_all]
      exact ((S3.bal w o').cell (p := ⟨b, o + j, none⟩) hb).trans (hc j u hu)
    have HN := Lib.hid hnews
    clear hnews HR
    go_enter Tryz.func20, Tryz.ntmps20
    go_wp2_with (at_builtin; refine wpList_append_own _ rfl (.tmp 5) (.tmp 6) 28 rfl w.heap.size 5 i0 _ 1 1 Tryz.underlying28 hi hz0 hz1 hz2 rfl (by decide) _ 0 [] rfl HG.out a rows.length c rows.flatten rfl HF.out (fun j u hu => HN.out j u hu _) H1.out (by unfold maxLen; omega) (by omega) (by simp) ?_)
    intro v' w1 hown hgrow _
    have hb : Below w.heap.size w w1 := (S3.bal w _).grown hgrow (by simp) (by rintro k hk; simp [Value.ownBlock] at hk; omega)
    have hown2 : w1.ownsRow w.heap.size 5 1 v' rows.length rows.flatten := by simpa using hown
    have HF2 := Lib.hid (And.intro hown2 hb)
    clear hown hown2 hgrow hb
    go_wp2
    go_ret
    exact ⟨_, rfl, HF2.out.1, HF2.out.2⟩
/-- A clone of tokens: a row of its own. -/
theorem cloneT_calls {w : World} {l : TL} {A : Option Addr} {n c : Nat} (h : TokL w w.heap.size (.slice A n c) l) (hl : l.length ≤ 1000000) :
    Calls Tryz.prog 31 #[.slice A n c] w fun e w' => ∃ v', e = .returned v' ∧ S3.GrI kA w.heap.size l v' w' ∧ Below w.heap.size w w' := by
  obtain ⟨rfl, V, ht, hr⟩ := tok_rows h
  have hl2 : (kA.rows l V).length = l.length := S3.RowKind.rows_len l V
  have := cloneTk (kA.rows l V) (S3.RowKind.rows_sz l V) (kA_one l V) (by omega) A c w (by rw [hl2]; exact hr)
  rw [hl2] at this
  refine this.mono ?_
  rintro e w' ⟨v', rfl, ho, hb⟩
  exact ⟨v', rfl, ⟨V, ho, fun j t hj => ht j t hj, hb.size⟩, hb⟩
/-- A clone of a draft's bytes. -/
theorem cloneD_calls {w : World} {M p : Nat} {ds : List Nat} {v : Value} (h : BySl w M p v ds) (hM : M ≤ w.heap.size) (hp : p < w.heap.size) (hl : ds.length ≤ 1000000) :
    Calls Tryz.prog 20 #[v] w fun e w' => ∃ v', e = .returned v' ∧ BySl w' w'.heap.size p v' ds ∧ Below w.heap.size w w' := by
  obtain ⟨A, c, rfl, h1, h2, h3⟩ := h
  have hl2 : (ds.map fun (x : Nat) => [Value.int .u8 (x : Int)]).length = ds.length := by simp
  have hf : (ds.map fun (x : Nat) => [Value.int .u8 (x : Int)]).flatten = ds.map fun (x : Nat) => Value.int .u8 (x : Int) := by
    clear h1 h3 hl hl2
    induction ds with
    | nil => rfl
    | cons x ds ih => simp at ih ⊢; exact ih
  have := cloneDr (ds.map fun (x : Nat) => [Value.int .u8 (x : Int)]) (by intro r hr; obtain ⟨x, _, rfl⟩ := List.mem_map.1 hr; rfl) (by rw [hf]; intro u hu; obtain ⟨x, _, rfl⟩ := List.mem_map.1 hu; rfl) (by omega) A c w (by
    rw [hl2, hf]
    intro h0
    obtain ⟨_, b, o, e1, _, e2, _⟩ := h3 0 ds[0] (List.getElem?_eq_getElem h0)
    refine ⟨b, o, e1, by omega, fun j u hu => ?_⟩
    rw [List.getElem?_map] at hu
    obtain ⟨x, hx, rfl⟩ := Option.map_eq_some_iff.1 hu
    obtain ⟨_, b', o', f1, _, _, f2⟩ := h3 j x hx
    rw [e1] at f1
    cases f1
    exact f2)
  rw [hl2] at this
  refine this.mono ?_
  rintro e w' ⟨v', rfl, ho, hb⟩
  refine ⟨v', rfl, ?_, hb⟩
  rw [hf] at ho
  rcases ho.2 with ⟨rfl, h0⟩ | ⟨g, cap, cur, rfl, g1, g2, g3, g4, g5, g6⟩
  · have h0 : ds = [] := by
      cases ds with
      | nil => rfl
      | cons x ds => simp at h0
    subst h0
    exact ⟨none, 0, rfl, Nat.le_refl _, by decide, fun i x hi => by simp at hi⟩
  · refine ⟨_, cap, rfl, g3, by unfold maxLen at g4; omega, fun i x hi => ?_⟩
    have hil := (List.getElem?_eq_some_iff.1 hi).1
    refine ⟨(h3 i x hi).1, g, 0, rfl, by omega, ?_, ?_⟩
    · rcases Nat.lt_or_ge g w'.heap.size with h9 | h9
      · exact h9
      · rw [Array.getElem?_eq_none h9] at g2; cases g2
    · rw [Nat.zero_add]
      refine (cell_of_row _ _ i _ _ _ g2).trans ?_
      have h9 := congrArg (fun l => l[i]?) g6
      simp only [List.getElem?_map, hi, Option.map_some] at h9
      rw [List.getElem?_take_of_lt (by omega), Array.getElem?_toList] at h9
      exact h9
end Go.Proofs.YtoldhocdfkndbaaGreatDoor.E5

namespace Go.Proofs.YtoldhocdfkndbaaGreatDoor.E5
open Go Go.RowKit Go.Proofs.YtoldhocdfkndbaaGreatDoor

theorem flat_tk (l : List L4.Tk) : ∀ V : Nat → Int, (∀ i t, l[i]? = some t → V i = (t.a : Int)) → (kA.rows (tlOf l) V).flatten = L4.flatT l := by
  induction l with
  | nil => intro V _; rfl
  | cons x l ih =>
    intro V hV
    have h0 := hV 0 x rfl
    have := ih (fun i => V (i + 1)) fun i t hi => hV (i + 1) t (by simpa using hi)
    simp only [S3.RowKind.rows, tlOf, List.map_cons, List.mapIdx_cons, List.flatten_cons] at this ⊢
    rw [h0]
    unfold L4.flatT at this ⊢
    rw [List.flatMap_cons, ← this]
    rfl
def ScanO (s : Bytes) (w : World) (E : Ending) (w' : World) : Prop := ∃ A c, E = .returned (.slice A (tlS s).length c) ∧ (tlS s).length ≤ c ∧ c ≤ 9223372036854775807 ∧ S3.GrI kA w.heap.size (tlS s) (.slice A (tlS s).length c) w' ∧ Below w.heap.size w w'
set_option maxHeartbeats 1000000 in
theorem scan_own (s : Bytes) (hs : s.length ≤ 1000000) (w : World) (hG : L4.Glob w) :
    Calls Tryz.prog 22 #[.string (B s)] w (ScanO s w) := by
  have HG := Lib.hid hG
  clear hG
  go_enter Tryz.func22, Tryz.ntmps22
  go_wp2_with fail
  refine (L4.scan_calls s hs _ HG.out).mono ?_
  rintro E w1 ⟨hb, h1, h2⟩
  have HB := Lib.hid hb
  clear hb
  cases hsc : (L4.scan s).2 with
  | some a =>
    obtain rfl := h1 a hsc
    have HT := Lib.hid (show tlS s = [] by unfold tlS; rw [if_neg (by rw [hsc]; simp)])
    clear h1 h2
    go_wp2_with fail
    go_ret
    exact ⟨none, 0, by rw [HT.out]; rfl, by rw [HT.out]; decide, by decide, by rw [HT.out]; exact S3.GrI.start kA HB.out.size (fun _ => 0), HB.out⟩
  | none =>
    obtain ⟨v, rfl, ho⟩ := h2 hsc
    obtain ⟨g1, g2⟩ := chain_small (L4.scan_chain (s := s) (l := (L4.scan s).1) (by rw [← hsc]))
    have hg : S3.GrI kA w.heap.size (tlS s) v w1 := by
      rw [show tlS s = tlOf (L4.scan s).1 by unfold tlS; rw [if_pos hsc]]
      refine ⟨fun i => (((L4.scan s).1[i]?).map fun t => (t.a : Int)).getD 0, ?_, fun j t hj => ?_, HB.out.size⟩
      · rw [flat_tk (L4.scan s).1 _ (fun i t hi => by rw [hi]; rfl)]
        have hz : (tlOf (L4.scan s).1).length = (L4.scan s).1.length := by simp [tlOf]
        rw [hz]
        exact ho
      · have hj' : ((L4.scan s).1.map fun t => (t.k, t.t))[j]? = some t := hj
        rw [List.getElem?_map, Option.map_eq_some_iff] at hj'
        obtain ⟨x, hx, rfl⟩ := hj'
        have := g2 x (List.mem_of_getElem? hx)
        show x.t.length ≤ _
        omega
    obtain ⟨A, c, rfl, hc1, hc2⟩ := gr_cap hg
    have HGr := Lib.hid (And.intro hg (And.intro hc1 hc2))
    clear h1 h2 ho g1 g2 hg hc1 hc2
    go_wp2_with fail
    go_ret
    exact ⟨A, c, rfl, HGr.out.2.1, HGr.out.2.2, HGr.out.1, HB.out⟩
end Go.Proofs.YtoldhocdfkndbaaGreatDoor.E5

namespace Go.Proofs.YtoldhocdfkndbaaGreatDoor.E5
open Go Go.RowKit Go.Proofs.YtoldhocdfkndbaaGreatDoor

/-- Grow of the nil slice. -/
theorem grow_run (w : World) (n : Nat) (hn : 0 < n) (hn2 : n ≤ 1000000) (ty : TypeId) : ∃ G, (Builtin.append_ #[35, 3] ty #[.slice none 0 0, .int .i64 (n : Int)]).run Tryz.prog w = .ok (.slice (some ⟨w.heap.size, 0, none⟩) n G) (w.drew.alloc (.cells ((#[] : Array Value) ++ Builtin.zeroCells #[.int .i64 0, .string ⟨#[]⟩, .int .i64 0] n ++ Builtin.zeroCells #[.int .i64 0, .string ⟨#[]⟩, .int .i64 0] (G - n)) 44)) ∧ n ≤ G ∧ G ≤ 9223372036854775807 := by
  obtain ⟨i0, hi, hq0, hq1, hq2⟩ := L4.info_partsT L4.infoTok
  have h := Lib.run_append_grow_zeros w 35 3 ty 44 i0 _ .i64 .i64 Tryz.underlying35 Tryz.underlying3 hi hq0 none 0 0 [] (run_firstCells_none w.drew i0.size 0 0 0) n hn (by omega) (by omega) (by omega) (by rw [hq2]; omega)
    (by have := growslice_fits (need := 0 + n) (old := 0) (bytes := i0.bytes) (by omega) (by rw [hq2]; omega); exact this)
  rw [Nat.zero_add] at h
  refine ⟨grownCap w n 0 44, ?_, grownCap_ge w _ _ _, ?_⟩
  · exact h
  · have := grownCap_le_maxLen w n 0 44 (by unfold maxLen; omega)
    unfold maxLen at this
    exact this
set_option maxRecDepth 100000 in
set_option maxHeartbeats 2000000 in
theorem grow_nil (n : Nat) (hn : n ≤ 1000000) (w : World) : Calls Tryz.prog 68 #[.slice none 0 0, .int .i64 (n : Int)] w fun e w' => ∃ v', e = .returned v' ∧ S3.GrI kA w.heap.size [] v' w' ∧ Below w.heap.size w w' := by
  have h0 : ¬ ((n : Int) < 0) := by omega
  by_cases hz : n = 0
  · subst hz
    go_enter Tryz.func68, Tryz.ntmps68
    go_wp2_with fail
    go_ret
    exact ⟨_, rfl, S3.GrI.start kA (Nat.le_refl _) (fun _ => 0), Below.refl _ _⟩
  · have h4 : 0 < (n : Int) := by omega
    have hR := fun ty => grow_run w n (by omega) hn ty
    have hG : ∀ G, n ≤ G → G ≤ 9223372036854775807 → S3.GrI kA w.heap.size [] (.slice (some ⟨w.heap.size, 0, none⟩) 0 G) (w.drew.alloc (.cells ((#[] : Array Value) ++ Builtin.zeroCells #[.int .i64 0, .string ⟨#[]⟩, .int .i64 0] n ++ Builtin.zeroCells #[.int .i64 0, .string ⟨#[]⟩, .int .i64 0] (G - n)) 44)) := fun G h1 h2 => by
      refine ⟨fun _ => 0, ⟨by simp [S3.RowKind.rows, kA], .inr ⟨w.heap.size, G, _, rfl, Nat.le_refl _, heap_alloc_new w.drew _, Nat.zero_le _, by unfold maxLen; omega, ?_, by simp [S3.RowKind.rows]⟩⟩, fun j a hj => by simp at hj, by rw [S3.sz1]; exact Nat.le_succ _⟩
      simp only [Array.size_append, size_zeroCells]
      show 0 + n * 3 + (G - n) * 3 = G * 3
      omega
    have hB : ∀ o, Below w.heap.size w (w.drew.alloc o) := fun o => (bal_dr w).trans (S3.bal w.drew o)
    obtain ⟨G, hrun, g1, g2⟩ := hR 35
    have HG := Lib.hid (hG G g1 g2)
    have HB := Lib.hid (hB (.cells ((#[] : Array Value) ++ Builtin.zeroCells #[.int .i64 0, .string ⟨#[]⟩, .int .i64 0] n ++ Builtin.zeroCells #[.int .i64 0, .string ⟨#[]⟩, .int .i64 0] (G - n)) 44))
    clear hR hG hB
    generalize w.drew.alloc (.cells ((#[] : Array Value) ++ Builtin.zeroCells #[.int .i64 0, .string ⟨#[]⟩, .int .i64 0] n ++ Builtin.zeroCells #[.int .i64 0, .string ⟨#[]⟩, .int .i64 0] (G - n)) 44) = w1 at *
    go_enter Tryz.func68, Tryz.ntmps68
    go_wp2_with (at_builtin; refine Lib.wpList_append_run _ rfl _ _ _ _ rfl _ _ rfl rfl _ _ hrun ?_)
    all_goals (go_ret; exact ⟨_, rfl, HG.out, HB.out⟩)
end Go.Proofs.YtoldhocdfkndbaaGreatDoor.E5
