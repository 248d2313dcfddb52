/-
  LexemeOrder: its walk.
-/
import Derived.Test.YtkbmominplkdkaaDoorLScans
import Derived.Test.YtkbmominplkdkaaDoorLBlank
import Derived.BigRegion
import Derived.Deep.RegionWith
import Derived.Deep.RegionLaw
namespace Go.Proofs.YtkbmominplkdkaaDoor
open Go Go.RowKit Go.Sort

/-- The tokens with one space between them, as items. -/
def its (l : List Tk) : List It := l.mapIdx fun i t => ⟨if i = 0 then [] else [32], t.k, t.t⟩
theorem its_snoc (l : List Tk) (t : Tk) : its (l ++ [t]) = its l ++ [⟨if l.length = 0 then [] else [32], t.k, t.t⟩] := by
  unfold its; rw [List.mapIdx_append]; simp
theorem its_len (l : List Tk) : (its l).length = l.length := by simp [its]
theorem its_ok {l : List Tk} (h : ∀ t ∈ l, IsTok t.k t.t) : ∀ i ∈ its l, GapOk i.g ∧ IsTok i.k i.t := by
  intro i hi
  obtain ⟨n, hn, rfl⟩ := List.getElem_of_mem hi
  simp only [its, List.getElem_mapIdx]
  refine ⟨?_, h _ (List.getElem_mem _)⟩
  intro x
  split
  · simp
  · show skN false (32 :: x) = _
    rw [sk_white (by decide)]; rfl
theorem its_sep (l : List Tk) : ∀ i ∈ (its l).tail, SepG i.g := by
  intro i hi
  obtain ⟨n, hn, rfl⟩ := List.getElem_of_mem hi
  simp only [List.getElem_tail, its, List.getElem_mapIdx]
  exact ⟨32, [], by simp, by decide⟩
/-- What the first i tokens give, written with spaces; and their offsets there. -/
def joT (l : List Tk) : Bytes := tx (its l) []
def woT (l : List Tk) : List Tk := wt 0 (its l)
theorem joT_snoc (l : List Tk) (t : Tk) : joT (l ++ [t]) = (if l.length = 0 then joT l else joT l ++ [32]) ++ t.t := by
  unfold joT
  rw [its_snoc, tx_append, tx_last]
  simp only [tx, List.append_nil]
  split <;> simp
theorem woT_snoc (l : List Tk) (t : Tk) : woT (l ++ [t]) = woT l ++ [⟨t.k, t.t, (if l.length = 0 then joT l else joT l ++ [32]).length⟩] := by
  unfold woT
  rw [its_snoc, wt_append]
  simp only [wt, joT]
  split <;> simp
theorem woT_len (l : List Tk) : (woT l).length = l.length := by unfold woT; rw [wt_length, its_len]
theorem scan_jo {l : List Tk} (h : ∀ t ∈ l, IsTok t.k t.t) : scan (joT l) = (woT l, none) := scan_back (its_ok h) (its_sep l) rfl rfl
/-- What is known of the token at an index, and of what stands ahead of it. -/
theorem ord_at {s : Bytes} {l : List Tk} (hq : scan s = (l, none)) {i : Nat} {t : Tk} (ht : l[i]? = some t) :
    endT l i ≤ t.a ∧ t.a + t.t.length ≤ s.length ∧ 0 < t.t.length ∧ (B s).extract t.a (t.a + t.t.length) = B t.t ∧ (∃ p, (B s).extract (endT l i) t.a = B p ∧ p.length ≤ s.length ∧ blankB false p = true) ∧ endT l (i + 1) = t.a + t.t.length ∧ IsTok t.k t.t := by
  have hi := (List.getElem?_eq_some_iff.1 ht).1
  have hg := (List.getElem?_eq_some_iff.1 ht).2
  have h := chain_at (scan_chain hq) i (Nat.le_of_lt hi)
  rw [(List.getElem_cons_drop hi).symm, hg] at h
  obtain ⟨h1, h2, h3, h4, h5, h6⟩ := h
  obtain ⟨f1, f2⟩ := tok_fits h4 h5
  obtain ⟨g1, g2, _⟩ := tok_is h4 h5
  have hsk := skAt_le s (endT l i) h1
  refine ⟨by omega, f1, f2, ?_, ⟨(s.drop (endT l i)).take (t.a - endT l i), ?_, ?_, ?_⟩, ?_, g1⟩
  · rw [Lib.extract_eq, show t.a + t.t.length - t.a = t.t.length by omega]
    obtain ⟨r, hr⟩ := g2
    show (⟨((s.drop t.a).take t.t.length).toArray⟩ : ByteArray) = _
    rw [← hr, List.take_left]
  · rw [Lib.extract_eq]
  · rw [List.length_take, List.length_drop]; omega
  · have : t.a - endT l i = skN false (s.drop (endT l i)) := by rw [h2]; unfold skAt; omega
    rw [this]; exact blank_skip _ _
  · rw [endT, ht]
theorem ord_end {s : Bytes} {l : List Tk} (hq : scan s = (l, none)) : endT l l.length ≤ s.length ∧ ∃ p, (B s).extract (endT l l.length) s.length = B p ∧ p.length ≤ s.length ∧ blankB false p = true := by
  have h := chain_at (scan_chain hq) l.length (Nat.le_refl _)
  rw [List.drop_of_length_le (Nat.le_refl _)] at h
  obtain ⟨h1, h2⟩ := h
  refine ⟨h1, (s.drop (endT l l.length)).take (s.length - endT l l.length), by rw [Lib.extract_eq], ?_, ?_⟩
  · rw [List.length_take, List.length_drop]; omega
  · have : s.length - endT l l.length = skN false (s.drop (endT l l.length)) := by unfold skAt at h2; omega
    rw [this]; exact blank_skip _ _
theorem toks_all {s : Bytes} {l : List Tk} (hq : scan s = (l, none)) : ∀ t ∈ l, IsTok t.k t.t := by
  intro t ht
  obtain ⟨i, hi⟩ := List.getElem?_of_mem ht
  exact (ord_at hq hi).2.2.2.2.2.2
theorem ends_ge {s : Bytes} {l : List Tk} (hq : scan s = (l, none)) : ∀ i, i ≤ l.length → i ≤ endT l i := by
  intro i
  induction i with
  | zero => intro _; omega
  | succ i ih =>
    intro hi
    have h1 := ih (by omega)
    obtain ⟨f1, _, f3, _, _, f6, _⟩ := ord_at hq (List.getElem?_eq_getElem (show i < l.length by omega))
    omega
theorem joT_len {s : Bytes} {l : List Tk} (hq : scan s = (l, none)) : ∀ i, i ≤ l.length → (joT (l.take i)).length ≤ 2 * endT l i := by
  intro i
  induction i with
  | zero => intro _; simp [joT, its, tx, endT]
  | succ i ih =>
    intro hi
    have h1 := ih (by omega)
    have ht : l[i]? = some l[i] := List.getElem?_eq_getElem (by omega)
    obtain ⟨f1, f2, f3, f4, f5, f6, f7⟩ := ord_at hq ht
    rw [List.take_succ_eq_append_getElem (by omega), joT_snoc, List.length_append, f6]
    split
    · omega
    · rw [List.length_append, List.length_singleton]; omega

theorem order_long (s : Bytes) (hl : 400 < s.length) (w : World) (hG : Glob w) :
    Calls Tryd.prog 6 #[.string (B s)] w fun e w' => e = .returned (.bool true) ∧ Below w.heap.size w w' := by
  have C := Lib.hid (works_calls w hG)
  have d1 : (400 : Int) < (s.length : Int) := by omega
  clear hG
  go_enter Tryd.func6, Tryd.ntmps6
  go_wp2_with fail
  refine C.out.mono ?_
  rintro e w1 ⟨rfl, hb⟩
  have HB := Lib.hid hb
  clear hb
  go_wp2_with fail
  go_ret
  exact ⟨rfl, HB.out⟩
theorem order_err (s : Bytes) (hl : s.length ≤ 400) (a : Nat) (hq : (scan s).2 = some a) (w : World) (hG : Glob w) :
    Calls Tryd.prog 6 #[.string (B s)] w fun e w' => e = .returned (.bool true) ∧ Below w.heap.size w w' := by
  have d1 : ¬ (400 : Int) < (s.length : Int) := by omega
  have d2 : (a : Int) < (s.length : Int) := by have := scan_err s _ _ a hq; omega
  have d3 : (0 : Int) ≤ (a : Int) := by omega
  have C1 := Lib.hid (scan_calls s (by omega) w hG)
  have H := Lib.hid (fun (W : World) (h : Below w.heap.size w W) => works_calls W (hG.below h))
  clear hG
  go_enter Tryd.func6, Tryd.ntmps6
  go_wp2_with fail
  refine C1.out.mono ?_
  rintro e w1 ⟨hb1, h1, h2⟩
  obtain rfl := h1 a hq
  have B1 := Lib.hid hb1
  clear hb1 h1 h2
  go_wp2_with fail
  refine (H.out _ B1.out).mono ?_
  rintro e w2 ⟨rfl, hb⟩
  have B2 := Lib.hid (B1.out.trans (hb.mono B1.out.size))
  clear hb
  go_wp2_with fail
  go_ret
  exact ⟨rfl, B2.out⟩
end Go.Proofs.YtkbmominplkdkaaDoor
