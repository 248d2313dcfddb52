/-
  strings.SplitSeq at a separator of one byte: its contract.
-/
import Derived.Test.YtfnobkcnopmfnaaDoorNRng
import Derived.Test.YtfnobkcnopmfnaaDoorNRead
import Derived.RangeFuncNested
import Derived.RangeFuncBound
import Derived.RangeFuncCalls
import Derived.RangeFuncLeaves
import Derived.Shelf.Abstract
import Derived.Shelf.RegionOpen
import Derived.OwnWalkIn
import Derived.TacticsInMore
import Derived.LoopNIn
import Derived.LoopIn
import Derived.Outline
import Derived.Lib.CutLaws
namespace Go.Proofs.YtfnobkcnopmfnaaDoor
open Go Go.RowKit Go.Shelf
attribute [local go_sem] Oper.semAt_some

theorem cell_other {w : World} {a b : Addr} {v : Value} (h : a ≠ b) : (w.setCell a v).cell? b = w.cell? b := World.cell?_setCell_other _ _ _ _ h
theorem grownBy_at (W : World) (a : Addr) (v : Value) : W.grownBy (W.setCell a v) (some a.block) :=
  ⟨rfl, rfl, rfl, by simp [World.setCell], fun k _ hk => Below.heap_setCell W a v k (fun e => hk (by rw [e]))⟩

/-- A cell that holds v and may be written. -/
def Cell (W : World) (p : Addr) (v : Value) : Prop := W.cell? p = some v ∧ W.frozen? p = false
theorem Cell.grown {W W' : World} {row : Option Nat} {p : Addr} {v : Value} (h : Cell W p v) (hg : W.grownBy W' row) (hne : some p.block ≠ row) : Cell W' p v :=
  ⟨hg.cell h.1 hne, (World.frozen?_of_block (hg.block p.block (World.block_lt_of_cell? W p h.1) hne)).trans h.2⟩
theorem Cell.in {W W' : World} {row : Option Nat} {lo hi : Nat} {p : Addr} {v : Value} (h : Cell W p v) (hg : W.grownBy W' row) (hr : ∀ r, row = some r → lo ≤ r ∧ r < hi) (hp : p.block < lo ∨ hi ≤ p.block) : Cell W' p v :=
  h.grown hg (fun e => by have := hr _ e.symm; omega)
theorem Cell.alloc {W : World} {p : Addr} {v : Value} (h : Cell W p v) (o : Obj) : Cell (W.alloc o) p v := h.grown (World.grownBy_alloc W o none) (by simp)
theorem Cell.new (W : World) (vs : Array Value) (T : TypeId) (i : Nat) (v : Value) (h : vs[i]? = some v) : Cell (W.alloc (.cells vs T)) ⟨W.heap.size, i, none⟩ v := by
  have := World.alloc_heap_new W (.cells vs T)
  constructor
  · unfold World.cell?; simp only [this]; exact h
  · unfold World.frozen?; simp only [this]; simp
theorem Cell.set {W : World} {p : Addr} {v : Value} (h : Cell W p v) (u : Value) : Cell (W.setCell p u) p u := ⟨World.cell?_setCell_same' _ _ _ (by rw [h.1]; rfl), by simpa using h.2⟩
theorem Cell.setOther {W : World} {p q : Addr} {v : Value} (h : Cell W p v) (hne : q ≠ p) (u : Value) : Cell (W.setCell q u) p v := ⟨(cell_other hne).trans h.1, by simpa using h.2⟩
theorem Cell.below {W W' : World} {n : Nat} {p : Addr} {v : Value} (h : Cell W p v) (hb : Below n W W') (hp : p.block < n) : Cell W' p v := ⟨(hb.cell hp).trans h.1, (hb.frozen hp).trans h.2⟩
theorem Cell.keep {W W' : World} {lo hi : Nat} {p : Addr} {v : Value} (h : Cell W p v) (hk : KeepsIn lo hi W W') (h1 : lo ≤ p.block) (h2 : p.block < hi) : Cell W' p v :=
  ⟨hk.cell h1 h2 h.1, (hk.frozen h1 h2 (World.block_lt_of_cell? W p h.1)).trans h.2⟩

theorem cutParts (s : ByteArray) (c : UInt8) :
    (Lib.indexByte s.data.toList c = -1 ∧ B (upTo c s.data.toList) = s ∧ B ((behind c s.data.toList).getD []) = ByteArray.empty ∧ (behind c s.data.toList).isSome = false) ∨
    ∃ i : Nat, Lib.indexByte s.data.toList c = i ∧ i + 1 ≤ s.size ∧ B (upTo c s.data.toList) = s.extract 0 i ∧ B ((behind c s.data.toList).getD []) = s.extract (i + 1) s.size ∧ (behind c s.data.toList).isSome = true := by
  rcases indexByte_cases s.data.toList c with ⟨h1, h2⟩ | ⟨h1, r, h2⟩
  · left
    refine ⟨h1, ?_, by rw [h2]; rfl, by rw [h2]; rfl⟩
    rw [behind_none h2]
  · right
    have hl := behind_length h2
    have hd := behind_drop h2
    rw [← Lib.size_eq] at hl
    refine ⟨(upTo c s.data.toList).length, h1, by omega, ?_, ?_, by rw [h2]; rfl⟩
    · rw [Lib.extract_eq]
      simp only [List.drop_zero, Nat.sub_zero]
      rw [← upTo_take]
    · rw [Lib.extract_eq, h2, ← hd]
      simp only [Option.getD_some]
      rw [List.take_of_length_le (by omega)]
theorem parts_eq (c : UInt8) (l : Bytes) : parts c l = upTo c l :: (match behind c l with | none => [] | some r => parts c r) := by
  induction l with
  | nil => rfl
  | cons b r ih =>
    by_cases h : b = c
    · rw [parts, upTo, behind, if_pos h, if_pos h, if_pos h]
    · rw [parts, upTo, behind, if_neg h, if_neg h, if_neg h, ih]
theorem parts_last (s : ByteArray) (c : UInt8) (h : Lib.indexByte s.data.toList c = -1) : parts c s.data.toList = [s.data.toList] := by
  rcases indexByte_cases s.data.toList c with ⟨_, h2⟩ | ⟨h1, _⟩
  · rw [parts_eq, h2, behind_none h2]
  · rw [h] at h1; omega
theorem parts_next (s : ByteArray) (c : UInt8) (i : Nat) (h : Lib.indexByte s.data.toList c = i) :
    i + 1 ≤ s.size ∧ ∃ x, B x = s.extract 0 i ∧ parts c s.data.toList = x :: parts c (s.extract (i + 1) s.size).data.toList := by
  rcases cutParts s c with ⟨h1, _⟩ | ⟨j, h1, h2, h3, h4, h5⟩
  · rw [h] at h1; omega
  · obtain rfl : i = j := by rw [h] at h1; omega
    refine ⟨h2, _, h3, ?_⟩
    rw [← h4, parts_eq]
    obtain ⟨r, hr⟩ := Option.isSome_iff_exists.1 h5
    rw [hr]
    simp

def leftOf (b : Nat) (W : World) : Nat :=
  match W.cell? ⟨b, 0, none⟩ with
  | some (.string t) => t.size
  | _ => 0

set_option maxRecDepth 100000 in
set_option maxHeartbeats 2000000 in
theorem split_stops (n : Nat) (s : ByteArray) (hs : s.size ≤ 9223372036854775800) (c : UInt8) (h lo : Nat) (w : World) (hlo : lo ≤ h) (hh : h + 2 < w.heap.size)
    (hc : Cell w ⟨h, 0, none⟩ (.string s)) (hc1 : Cell w ⟨h + 1, 0, none⟩ (.string ⟨#[c]⟩)) (hc2 : Cell w ⟨h + 2, 0, none⟩ (.int .i64 0)) :
    SeqStopsC Fence.wide n Tryd.prog 44 #[.pointer (some ⟨h + 1, 0, none⟩), .pointer (some ⟨h, 0, none⟩), .pointer (some ⟨h + 2, 0, none⟩)] (fun r : Bytes => #[.string (B r)]) lo 0
      (fun xs => xs = parts c s.data.toList) (fun pre => pre <+: parts c s.data.toList) (parts c s.data.toList).length w := by
  intro l J Jx W hW hJ hJx hY h0
  have k0 := hc.below hW (show h < w.heap.size by omega)
  have k1 := hc1.below hW (show h + 1 < w.heap.size by omega)
  have k2 := hc2.below hW (show h + 2 < w.heap.size by omega)
  have hsz := hW.size
  clear hc hc1 hc2
  refine callsIn_of_wp Tryd.func44 rfl trivial ?_ rfl
  simp only [Tryd.ntmps44, List.size_toArray, List.length_cons, List.length_nil, Nat.reduceAdd, Nat.reduceSub, Array.replicate_succ, Array.replicate_zero, List.push_toArray, List.append_toArray, List.nil_append, List.cons_append]
  obtain ⟨g0, f0⟩ := k0
  obtain ⟨g1, f1⟩ := k1
  obtain ⟨g2, f2⟩ := k2
  gi_wp2_with fail
  gi_loopw [] (fun wr => ∃ pre t, parts c s.data.toList = pre ++ parts c t.data.toList ∧ t.size ≤ s.size ∧ J pre wr ∧ Cell wr ⟨h, 0, none⟩ (.string t) ∧ Cell wr ⟨h + 1, 0, none⟩ (.string ⟨#[c]⟩) ∧ Cell wr ⟨h + 2, 0, none⟩ (.int .i64 0) ∧ W.heap.size ≤ wr.heap.size)
    (fun wr => leftOf h wr)
  case atStart => exact ⟨[], s, rfl, Nat.le_refl _, h0, ⟨g0, f0⟩, ⟨g1, f1⟩, ⟨g2, f2⟩, Nat.le_refl _⟩
  case round =>
    clear g0 f0 g1 f1 g2 f2
    obtain ⟨pre, t, hp, ht, hJw, ⟨g0, f0⟩, ⟨g1, f1⟩, ⟨g2, f2⟩, hwsz⟩ := hrel
    have hC := fun W2 => Tryd.strings_Index_one t c W2
    obtain ⟨ix, hix⟩ : ∃ x, Lib.indexByte t.data.toList c = x := ⟨_, rfl⟩
    rw [hix] at hC
    have HC := Lib.hid hC
    clear hC
    rcases indexByte_cases t.data.toList c with ⟨e1, _⟩ | ⟨e1, _⟩
    · rw [hix] at e1
      subst e1
      have hP := parts_last t c hix
      rw [hP] at hp
      have HP := Lib.hid hp
      clear hp hix hP
      gi_wp2_with fail
      refine ⟨trivial, fun h => (by cases h), (callsIn_wide.2 (HC.out _)).mono ?_⟩
      rintro e w' ⟨rfl, rfl⟩
      have hpre : pre ++ [t.data.toList] <+: parts c s.data.toList := by rw [HP.out]; exact List.prefix_refl _
      obtain ⟨fn, tmps, assign, body, hy, hR⟩ := hY pre t.data.toList w' hJw (by rw [HP.out]; simp) hpre (by omega)
      rw [show B t.data.toList = t from rfl] at hy
      gi_wp2_with fail
      refine ⟨fun h => (by cases h), hR.mono ?_⟩
      clear hR hy
      rintro e W3 (⟨rfl, hJ3, hk1, hk2⟩ | ⟨rfl, hJx3⟩)
      · gi_wp2_with fail
        go_end0
        exact ⟨⟨_, rfl⟩, .inl ⟨_, HP.out.symm, hJ3⟩⟩
      · gi_wp2_with fail
        go_end0
        exact ⟨⟨_, rfl⟩, .inr ⟨_, hpre, hJx3⟩⟩
    · rw [hix] at e1
      obtain ⟨i, hi⟩ : ∃ i : Nat, ix = i := ⟨_, e1⟩
      subst hi
      obtain ⟨hroom, x, hx, hP⟩ := parts_next t c i hix
      rw [hP] at hp
      have HP := Lib.hid hp
      have HX := Lib.hid hx
      have hpre : pre ++ [x] <+: parts c s.data.toList := ⟨_, by rw [HP.out, List.append_assoc]; rfl⟩
      have hlen : pre.length < (parts c s.data.toList).length := by rw [HP.out]; simp
      have hts : ((t.extract (i + 1) t.size).size : Nat) = t.size - (i + 1) := by rw [Lib.size_eq, Lib.extract_to_end, List.length_drop, ← Lib.size_eq]
      have HTS := Lib.hid hts
      clear hp hix hP hx e1 hts
      have c1 : (0 : Int) ≤ i := by omega
      have c2 : (i : Int) ≤ t.size := by omega
      have c3 : (i : Int) + 1 ≤ t.size := by omega
      gi_wp2_with fail
      refine ⟨trivial, fun h => (by cases h), (callsIn_wide.2 (HC.out _)).mono ?_⟩
      clear HC
      rintro e w' ⟨rfl, rfl⟩
      obtain ⟨fn, tmps, assign, body, hy, hR⟩ := hY pre x w' hJw hlen hpre (by omega)
      rw [HX.out] at hy
      gi_wp2_with fail
      refine ⟨fun h => (by cases h), hR.mono ?_⟩
      clear hR hy
      rintro e W3 (⟨rfl, hJ3, hk1, hk2⟩ | ⟨rfl, hJx3⟩)
      · obtain ⟨q0, p0⟩ := Cell.keep (p := ⟨h, 0, none⟩) ⟨g0, f0⟩ hk1 hlo (show h < w.heap.size by omega)
        obtain ⟨q1, p1⟩ := Cell.keep (p := ⟨h + 1, 0, none⟩) ⟨g1, f1⟩ hk1 (show lo ≤ h + 1 by omega) (show h + 1 < w.heap.size by omega)
        obtain ⟨q2, p2⟩ := Cell.keep (p := ⟨h + 2, 0, none⟩) ⟨g2, f2⟩ hk1 (show lo ≤ h + 2 by omega) (show h + 2 < w.heap.size by omega)
        have hw3 : W.heap.size ≤ W3.heap.size := by have := hk1.size; omega
        have HG0 := Lib.hid g0
        clear g0 f0 g1 f1 g2 f2 hk1 hk2
        gi_wp2_with fail
        refine ⟨⟨pre ++ [x], _, by rw [List.append_assoc]; exact HP.out, by rw [HTS.out]; omega, hJ _ _ _ (some h) hJ3 (grownBy_at _ _ _) (fun r e => by cases e; exact .inl ⟨hlo, by omega⟩), Cell.set ⟨q0, p0⟩ _, Cell.setOther ⟨q1, p1⟩ (by intro e; cases e) _, Cell.setOther ⟨q2, p2⟩ (by intro e; cases e) _, by simp [World.setCell]; omega⟩, ?_⟩
        have e1 := (Cell.set ⟨q0, p0⟩ (.string (t.extract (i + 1) t.size))).1
        simp only [leftOf, e1, HG0.out]
        have := HTS.out
        omega
      · gi_wp2_with fail
        refine bodyPost_ret (results_none rfl _ _ _) rfl ⟨⟨_, rfl⟩, .inr ⟨_, hpre, hJx3⟩⟩
end Go.Proofs.YtfnobkcnopmfnaaDoor
