/-
  slices.Clone at its four types: contracts. Written by gen3_clone.py.
-/
import Derived.Test.YtodicpnojcaanaaDoorSMem
import Derived.Lib.LazyBuf
namespace Go.Proofs.YtodicpnojcaanaaDoor
open Go Go.RowKit

/-- What a clone is: empty, or a new row. -/
def CloneR (w : World) (T : TypeId) (sz : Nat) (rows : List (List Value)) (e : Ending) (w' : World) : Prop :=
  Below w.heap.size w w' ∧ ((rows = [] ∧ ∃ A c, e = .returned (.slice A 0 c)) ∨ ∃ g cap, e = .returned (.slice (some ⟨g, 0, none⟩) rows.length cap) ∧ w.heap.size ≤ g ∧ RowAt w' g T sz cap rows)
theorem CloneR.of_own {w w1 : World} {T : TypeId} {sz : Nat} {rows : List (List Value)} {v : Value} (hlen : ∀ r ∈ rows, r.length = sz) (h : w1.ownsRow w.heap.size T sz v rows.length rows.flatten) (hb : Below w.heap.size w w1) : CloneR w T sz rows (.returned v) w1 := by
  refine ⟨hb, ?_⟩
  rcases rows with _ | ⟨r, rows⟩
  · rcases h.2 with ⟨rfl, _⟩ | ⟨g, cap, cur, rfl, _⟩
    · exact .inl ⟨rfl, _, _, rfl⟩
    · exact .inl ⟨rfl, _, _, rfl⟩
  · obtain ⟨g, cap, rfl, hg, hr⟩ := RowAt.of_own h hlen (by simp)
    exact .inr ⟨g, cap, rfl, hg, hr⟩

theorem infoE : (Tryd.prog.info? 24).map (fun i => (i.zero, i.size, i.bytes)) = some (some (.agg #[.int .i64 0, .int .i64 0, .int .i64 0, .string ⟨#[]⟩, .slice none 0 0]), 5, 64) := by kernel_rfl
set_option maxRecDepth 100000 in
set_option maxHeartbeats 1000000 in
theorem cloneE_calls (rows : List (List Value)) (hlen : ∀ r ∈ rows, r.length = 5) (h1 : ∀ u ∈ rows.flatten, u.oneCell' = true) (hn : rows.length ≤ 1000) (A : Option Addr) (c : Nat) (w : World)
    (hrd : 0 < rows.length → ∃ b o, A = some ⟨b, o, none⟩ ∧ b < w.heap.size ∧ ∀ j u, rows.flatten[j]? = some u → w.cell? ⟨b, o + j, none⟩ = some u) :
    Calls Tryd.prog 98 #[.slice A rows.length c] w (CloneR w 24 5 rows) := by
  have q := fun W a n c => run_eql_slice_nil (P := Tryd.prog) W 22 24 a n c Tryd.underlying22
  have HF := Lib.hid (flat_len hlen)
  have H1 := Lib.hid h1
  have HL := Lib.hid hlen
  have HR := Lib.hid hrd
  have HG := Lib.hid (show (w.alloc (.cells #[] 24)).ownsRow w.heap.size 24 5 (.slice (some ⟨w.heap.size, 0, none⟩) 0 0) 0 [] from
    ⟨by simp, .inr ⟨w.heap.size, 0, #[], rfl, Nat.le_refl _, heap_alloc_new w _, Nat.le_refl _, by unfold maxLen; omega, by simp, by simp⟩⟩)
  obtain ⟨i0, hi, hz0, hz1, hz2⟩ := info_parts infoE
  clear hlen h1 hrd
  cases A with
  | none =>
    have hr : rows = [] := by
      rcases rows with _ | ⟨r, rows⟩
      · rfl
      · obtain ⟨b, o, h, _⟩ := HR.out (by simp)
        cases h
    subst hr
    go_enter Tryd.func98, Tryd.ntmps98
    go_wp2_with fail
    go_ret
    exact ⟨Below.refl _ _, .inl ⟨rfl, _, _, rfl⟩⟩
  | some a =>
    have hnews : ∀ j u, rows.flatten[j]? = some u → ∀ o', (w.alloc o').cell? (a.add j) = some u := by
      intro j u hu o'
      have h0 : 0 < rows.length := by
        rcases rows with _ | ⟨r, rows⟩
        · simp at hu
        · simp
      obtain ⟨b, o, h, hb, hc⟩ := HR.out h0
      cases h
      rw [show (Addr.add ⟨b, o, none⟩ j) = ⟨b, o + j, none⟩ by unfold Addr.add; split <;> simp_all]
      exact ((bal w o').cell (p := ⟨b, o + j, none⟩) hb).trans (hc j u hu)
    have HN := Lib.hid hnews
    clear hnews HR
    go_enter Tryd.func98, Tryd.ntmps98
    go_wp2_with (at_builtin; refine wpList_append_own _ rfl (.tmp 5) (.tmp 6) 22 rfl w.heap.size 24 i0 _ 5 64 Tryd.underlying22 hi hz0 hz1 hz2 rfl (by decide) _ 0 [] rfl HG.out a rows.length c rows.flatten rfl HF.out (fun j u hu => HN.out j u hu _) H1.out (by unfold maxLen; omega) (by omega) (by simp) ?_)
    intro v' w1 hown hgrow _
    have hb : Below w.heap.size w w1 := (bal w _).grown hgrow (by simp) (by rintro k hk; simp [Value.ownBlock] at hk; omega)
    have HF2 := Lib.hid (CloneR.of_own HL.out hown hb)
    clear hown hgrow hb
    go_wp2
    go_ret
    exact HF2.out

theorem infoS : (Tryd.prog.info? 46).map (fun i => (i.zero, i.size, i.bytes)) = some (some (.agg #[.int .i64 0, .int .i64 0, .string ⟨#[]⟩, .int .i64 0, .string ⟨#[]⟩, .slice none 0 0, .slice none 0 0, .slice none 0 0]), 8, 128) := by kernel_rfl
set_option maxRecDepth 100000 in
set_option maxHeartbeats 1000000 in
theorem cloneS_calls (rows : List (List Value)) (hlen : ∀ r ∈ rows, r.length = 8) (h1 : ∀ u ∈ rows.flatten, u.oneCell' = true) (hn : rows.length ≤ 1000) (A : Option Addr) (c : Nat) (w : World)
    (hrd : 0 < rows.length → ∃ b o, A = some ⟨b, o, none⟩ ∧ b < w.heap.size ∧ ∀ j u, rows.flatten[j]? = some u → w.cell? ⟨b, o + j, none⟩ = some u) :
    Calls Tryd.prog 78 #[.slice A rows.length c] w (CloneR w 46 8 rows) := by
  have q := fun W a n c => run_eql_slice_nil (P := Tryd.prog) W 41 46 a n c Tryd.underlying41
  have HF := Lib.hid (flat_len hlen)
  have H1 := Lib.hid h1
  have HL := Lib.hid hlen
  have HR := Lib.hid hrd
  have HG := Lib.hid (show (w.alloc (.cells #[] 46)).ownsRow w.heap.size 46 8 (.slice (some ⟨w.heap.size, 0, none⟩) 0 0) 0 [] from
    ⟨by simp, .inr ⟨w.heap.size, 0, #[], rfl, Nat.le_refl _, heap_alloc_new w _, Nat.le_refl _, by unfold maxLen; omega, by simp, by simp⟩⟩)
  obtain ⟨i0, hi, hz0, hz1, hz2⟩ := info_parts infoS
  clear hlen h1 hrd
  cases A with
  | none =>
    have hr : rows = [] := by
      rcases rows with _ | ⟨r, rows⟩
      · rfl
      · obtain ⟨b, o, h, _⟩ := HR.out (by simp)
        cases h
    subst hr
    go_enter Tryd.func78, Tryd.ntmps78
    go_wp2_with fail
    go_ret
    exact ⟨Below.refl _ _, .inl ⟨rfl, _, _, rfl⟩⟩
  | some a =>
    have hnews : ∀ j u, rows.flatten[j]? = some u → ∀ o', (w.alloc o').cell? (a.add j) = some u := by
      intro j u hu o'
      have h0 : 0 < rows.length := by
        rcases rows with _ | ⟨r, rows⟩
        · simp at hu
        · simp
      obtain ⟨b, o, h, hb, hc⟩ := HR.out h0
      cases h
      rw [show (Addr.add ⟨b, o, none⟩ j) = ⟨b, o + j, none⟩ by unfold Addr.add; split <;> simp_all]
      exact ((bal w o').cell (p := ⟨b, o + j, none⟩) hb).trans (hc j u hu)
    have HN := Lib.hid hnews
    clear hnews HR
    go_enter Tryd.func78, Tryd.ntmps78
    go_wp2_with (at_builtin; refine wpList_append_own _ rfl (.tmp 5) (.tmp 6) 41 rfl w.heap.size 46 i0 _ 8 128 Tryd.underlying41 hi hz0 hz1 hz2 rfl (by decide) _ 0 [] rfl HG.out a rows.length c rows.flatten rfl HF.out (fun j u hu => HN.out j u hu _) H1.out (by unfold maxLen; omega) (by omega) (by simp) ?_)
    intro v' w1 hown hgrow _
    have hb : Below w.heap.size w w1 := (bal w _).grown hgrow (by simp) (by rintro k hk; simp [Value.ownBlock] at hk; omega)
    have HF2 := Lib.hid (CloneR.of_own HL.out hown hb)
    clear hown hgrow hb
    go_wp2
    go_ret
    exact HF2.out

theorem infoF : (Tryd.prog.info? 43).map (fun i => (i.zero, i.size, i.bytes)) = some (some (.agg #[.string ⟨#[]⟩, .slice none 0 0, .int .i64 0, .slice none 0 0, .int .i64 0]), 5, 80) := by kernel_rfl
set_option maxRecDepth 100000 in
set_option maxHeartbeats 1000000 in
theorem cloneF_calls (rows : List (List Value)) (hlen : ∀ r ∈ rows, r.length = 5) (h1 : ∀ u ∈ rows.flatten, u.oneCell' = true) (hn : rows.length ≤ 1000) (A : Option Addr) (c : Nat) (w : World)
    (hrd : 0 < rows.length → ∃ b o, A = some ⟨b, o, none⟩ ∧ b < w.heap.size ∧ ∀ j u, rows.flatten[j]? = some u → w.cell? ⟨b, o + j, none⟩ = some u) :
    Calls Tryd.prog 53 #[.slice A rows.length c] w (CloneR w 43 5 rows) := by
  have q := fun W a n c => run_eql_slice_nil (P := Tryd.prog) W 33 43 a n c Tryd.underlying33
  have HF := Lib.hid (flat_len hlen)
  have H1 := Lib.hid h1
  have HL := Lib.hid hlen
  have HR := Lib.hid hrd
  have HG := Lib.hid (show (w.alloc (.cells #[] 43)).ownsRow w.heap.size 43 5 (.slice (some ⟨w.heap.size, 0, none⟩) 0 0) 0 [] from
    ⟨by simp, .inr ⟨w.heap.size, 0, #[], rfl, Nat.le_refl _, heap_alloc_new w _, Nat.le_refl _, by unfold maxLen; omega, by simp, by simp⟩⟩)
  obtain ⟨i0, hi, hz0, hz1, hz2⟩ := info_parts infoF
  clear hlen h1 hrd
  cases A with
  | none =>
    have hr : rows = [] := by
      rcases rows with _ | ⟨r, rows⟩
      · rfl
      · obtain ⟨b, o, h, _⟩ := HR.out (by simp)
        cases h
    subst hr
    go_enter Tryd.func53, Tryd.ntmps53
    go_wp2_with fail
    go_ret
    exact ⟨Below.refl _ _, .inl ⟨rfl, _, _, rfl⟩⟩
  | some a =>
    have hnews : ∀ j u, rows.flatten[j]? = some u → ∀ o', (w.alloc o').cell? (a.add j) = some u := by
      intro j u hu o'
      have h0 : 0 < rows.length := by
        rcases rows with _ | ⟨r, rows⟩
        · simp at hu
        · simp
      obtain ⟨b, o, h, hb, hc⟩ := HR.out h0
      cases h
      rw [show (Addr.add ⟨b, o, none⟩ j) = ⟨b, o + j, none⟩ by unfold Addr.add; split <;> simp_all]
      exact ((bal w o').cell (p := ⟨b, o + j, none⟩) hb).trans (hc j u hu)
    have HN := Lib.hid hnews
    clear hnews HR
    go_enter Tryd.func53, Tryd.ntmps53
    go_wp2_with (at_builtin; refine wpList_append_own _ rfl (.tmp 5) (.tmp 6) 33 rfl w.heap.size 43 i0 _ 5 80 Tryd.underlying33 hi hz0 hz1 hz2 rfl (by decide) _ 0 [] rfl HG.out a rows.length c rows.flatten rfl HF.out (fun j u hu => HN.out j u hu _) H1.out (by unfold maxLen; omega) (by omega) (by simp) ?_)
    intro v' w1 hown hgrow _
    have hb : Below w.heap.size w w1 := (bal w _).grown hgrow (by simp) (by rintro k hk; simp [Value.ownBlock] at hk; omega)
    have HF2 := Lib.hid (CloneR.of_own HL.out hown hb)
    clear hown hgrow hb
    go_wp2
    go_ret
    exact HF2.out

theorem infoP : (Tryd.prog.info? 61).map (fun i => (i.zero, i.size, i.bytes)) = some (some (.agg #[.string ⟨#[]⟩, .int .i64 0]), 2, 24) := by kernel_rfl
set_option maxRecDepth 100000 in
set_option maxHeartbeats 1000000 in
theorem cloneP_calls (rows : List (List Value)) (hlen : ∀ r ∈ rows, r.length = 2) (h1 : ∀ u ∈ rows.flatten, u.oneCell' = true) (hn : rows.length ≤ 1000) (A : Option Addr) (c : Nat) (w : World)
    (hrd : 0 < rows.length → ∃ b o, A = some ⟨b, o, none⟩ ∧ b < w.heap.size ∧ ∀ j u, rows.flatten[j]? = some u → w.cell? ⟨b, o + j, none⟩ = some u) :
    Calls Tryd.prog 80 #[.slice A rows.length c] w (CloneR w 61 2 rows) := by
  have q := fun W a n c => run_eql_slice_nil (P := Tryd.prog) W 40 61 a n c Tryd.underlying40
  have HF := Lib.hid (flat_len hlen)
  have H1 := Lib.hid h1
  have HL := Lib.hid hlen
  have HR := Lib.hid hrd
  have HG := Lib.hid (show (w.alloc (.cells #[] 61)).ownsRow w.heap.size 61 2 (.slice (some ⟨w.heap.size, 0, none⟩) 0 0) 0 [] from
    ⟨by simp, .inr ⟨w.heap.size, 0, #[], rfl, Nat.le_refl _, heap_alloc_new w _, Nat.le_refl _, by unfold maxLen; omega, by simp, by simp⟩⟩)
  obtain ⟨i0, hi, hz0, hz1, hz2⟩ := info_parts infoP
  clear hlen h1 hrd
  cases A with
  | none =>
    have hr : rows = [] := by
      rcases rows with _ | ⟨r, rows⟩
      · rfl
      · obtain ⟨b, o, h, _⟩ := HR.out (by simp)
        cases h
    subst hr
    go_enter Tryd.func80, Tryd.ntmps80
    go_wp2_with fail
    go_ret
    exact ⟨Below.refl _ _, .inl ⟨rfl, _, _, rfl⟩⟩
  | some a =>
    have hnews : ∀ j u, rows.flatten[j]? = some u → ∀ o', (w.alloc o').cell? (a.add j) = some u := by
      intro j u hu o'
      have h0 : 0 < rows.length := by
        rcases rows with _ | ⟨r, rows⟩
        · simp at hu
        · simp
      obtain ⟨b, o, h, hb, hc⟩ := HR.out h0
      cases h
      rw [show (Addr.add ⟨b, o, none⟩ j) = ⟨b, o + j, none⟩ by unfold Addr.add; split <;> simp_all]
      exact ((bal w o').cell (p := ⟨b, o + j, none⟩) hb).trans (hc j u hu)
    have HN := Lib.hid hnews
    clear hnews HR
    go_enter Tryd.func80, Tryd.ntmps80
    go_wp2_with (at_builtin; refine wpList_append_own _ rfl (.tmp 5) (.tmp 6) 40 rfl w.heap.size 61 i0 _ 2 24 Tryd.underlying40 hi hz0 hz1 hz2 rfl (by decide) _ 0 [] rfl HG.out a rows.length c rows.flatten rfl HF.out (fun j u hu => HN.out j u hu _) H1.out (by unfold maxLen; omega) (by omega) (by simp) ?_)
    intro v' w1 hown hgrow _
    have hb : Below w.heap.size w w1 := (bal w _).grown hgrow (by simp) (by rintro k hk; simp [Value.ownBlock] at hk; omega)
    have HF2 := Lib.hid (CloneR.of_own HL.out hown hb)
    clear hown hgrow hb
    go_wp2
    go_ret
    exact HF2.out
end Go.Proofs.YtodicpnojcaanaaDoor
