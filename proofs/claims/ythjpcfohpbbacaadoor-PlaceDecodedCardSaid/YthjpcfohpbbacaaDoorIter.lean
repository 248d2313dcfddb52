/-
  place.rows: the iterator over the lines of a text: its contract.
-/
import Derived.Test.YthjpcfohpbbacaaDoorRng
import Derived.Test.YthjpcfohpbbacaaDoorCut
import Derived.RangeFuncNested
import Derived.RangeFuncBound
import Derived.RangeFuncCalls
import Derived.RangeFuncLeaves
import Derived.Shelf.Abstract
import Derived.Shelf.RegionOpen
import Derived.OwnWalkIn
import Derived.TacticsInMore
import Derived.LoopNIn
import Derived.LoopIn
import Derived.Outline
namespace Go.Proofs.YthjpcfohpbbacaaDoor
open Go Go.RowKit Go.Shelf
attribute [local go_sem] Oper.semAt_some

theorem cell_other {w : World} {a b : Addr} {v : Value} (h : a ≠ b) : (w.setCell a v).cell? b = w.cell? b := World.cell?_setCell_other _ _ _ _ h
theorem grownBy_at (W : World) (a : Addr) (v : Value) : W.grownBy (W.setCell a v) (some a.block) :=
  ⟨rfl, rfl, rfl, by simp [World.setCell], fun k _ hk => Below.heap_setCell W a v k (fun e => hk (by rw [e]))⟩

def encRow (r : Row) : Value := .agg #[.int .i64 r.num, .int .i64 r.start, .string (B r.text)]

/-- What the iterator's own block holds. -/
structure Held (b num st : Nat) (t : ByteArray) (W : World) : Prop where
  c0 : W.cell? ⟨b, 0, none⟩ = some (.int .i64 num)
  c1 : W.cell? ⟨b, 1, none⟩ = some (.int .i64 st)
  c2 : W.cell? ⟨b, 2, none⟩ = some (.string t)
  f0 : W.frozen? ⟨b, 0, none⟩ = false
  f1 : W.frozen? ⟨b, 1, none⟩ = false
  f2 : W.frozen? ⟨b, 2, none⟩ = false

theorem Held.of {b num st : Nat} {t : ByteArray} {W : World} {T : TypeId} (h : W.heap[b]? = some (.cells #[.int .i64 num, .int .i64 st, .string t] T (0, 0))) : Held b num st t W := by
  constructor <;> simp [World.cell?, World.frozen?, h]

theorem Held.step {b num st : Nat} {t : ByteArray} {W : World} (h : Held b num st t W) (n' s' : Nat) :
    Held b n' s' t ((W.setCell ⟨b, 0, none⟩ (.int .i64 n')).setCell ⟨b, 1, none⟩ (.int .i64 s')) := by
  have h01 : (⟨b, 0, none⟩ : Addr) ≠ ⟨b, 1, none⟩ := by intro h; cases h
  have h10 : (⟨b, 1, none⟩ : Addr) ≠ ⟨b, 0, none⟩ := by intro h; cases h
  have h02 : (⟨b, 0, none⟩ : Addr) ≠ ⟨b, 2, none⟩ := by intro h; cases h
  have h12 : (⟨b, 1, none⟩ : Addr) ≠ ⟨b, 2, none⟩ := by intro h; cases h
  refine ⟨?_, ?_, ?_, by simpa using h.f0, by simpa using h.f1, by simpa using h.f2⟩
  · exact (cell_other h10).trans (World.cell?_setCell_same' _ _ _ (by simp [h.c0]))
  · exact World.cell?_setCell_same' _ _ _ (by rw [cell_other h01, h.c1]; rfl)
  · exact (cell_other h12).trans ((cell_other h02).trans h.c2)

def leftOf (s : ByteArray) (b : Nat) (W : World) : Nat :=
  match W.cell? ⟨b, 1, none⟩ with
  | some (.int _ n) => s.size + 1 - n.toNat
  | _ => 0

set_option maxRecDepth 100000 in
set_option maxHeartbeats 2000000 in
theorem rows_stops (n : Nat) (s : ByteArray) (hs : s.size ≤ 9223372036854775800) (bt lo : Nat) (w : World) (hlo : lo ≤ bt) (hbt : bt < w.heap.size) (hc : w.cell? ⟨bt, 0, none⟩ = some (.string s)) :
    SeqStopsR Fence.wide n Tryd.prog 48 #[.pointer (some ⟨bt, 0, none⟩)] (fun r : Row => #[encRow r]) lo 1 (fun xs => xs = rowsOf s.data.toList) (fun pre => pre <+: rowsOf s.data.toList) (rowsOf s.data.toList).length w := by
  intro l J Jx W hW hJ hJx hY h0
  have hcW : W.cell? ⟨bt, 0, none⟩ = some (.string s) := (hW.cell (p := ⟨bt, 0, none⟩) hbt).trans hc
  have hsz := hW.size
  refine callsIn_of_wp Tryd.func48 rfl trivial ?_ rfl
  simp only [Tryd.ntmps48, List.size_toArray, List.length_cons, List.length_nil, Nat.reduceAdd, Nat.reduceSub, Array.replicate_succ, Array.replicate_zero, List.push_toArray, List.append_toArray, List.nil_append, List.cons_append]
  gi_wp2_with fail
  gi_loopw [] (fun wr => ∃ pre num st t, AtRow s.data.toList pre num st ∧ J pre wr ∧ Held W.heap.size num st t wr ∧ wr.cell? ⟨bt, 0, none⟩ = some (.string s) ∧ W.heap.size + 1 ≤ wr.heap.size)
    (fun wr => leftOf s W.heap.size wr)
  case atStart =>
    refine ⟨[], 1, 0, ⟨#[]⟩, AtRow.start _, hJ.alloc _ h0, ?_, ?_, by simp⟩
    · exact Held.of (World.alloc_heap_new W _)
    · exact (Below.cell ((Below.refl W.heap.size W).alloc (Nat.le_refl _) _) (p := ⟨bt, 0, none⟩) (show bt < W.heap.size by omega)).trans hcW
  case round =>
    obtain ⟨pre, num, st, t, hat, hJw, ⟨c0, c1, c2, f0, f1, f2⟩, hcw, hwsz⟩ := hrel
    have hst : (0 : Int) ≤ st := by omega
    have hst2 : (st : Int) ≤ s.size := by have := hat.le; rw [← Lib.size_eq] at this; omega
    have hx : (s.extract st s.size).size ≤ 9223372036854775807 := by rw [Lib.size_eq, Lib.extract_to_end, List.length_drop, ← Lib.size_eq]; omega
    have hC := fun W2 => strings_cut1 (s.extract st s.size) 10 W2 hx
    rw [Lib.extract_to_end] at hC
    obtain ⟨line, hline⟩ : ∃ x, upTo 10 (s.data.toList.drop st) = x := ⟨_, rfl⟩
    obtain ⟨rest, hrest⟩ : ∃ x, (behind 10 (s.data.toList.drop st)).getD [] = x := ⟨_, rfl⟩
    obtain ⟨more, hmore⟩ : ∃ x, (behind 10 (s.data.toList.drop st)).isSome = x := ⟨_, rfl⟩
    rw [hline, hrest, hmore] at hC
    have HC := Lib.hid hC
    clear hC
    have hnum : (num : Int) ≤ s.size + 1 := by
      obtain ⟨_, _, h2⟩ := hat.row
      have h3 := hat.numIs
      have h4 := lines_length_le s.data.toList
      rw [rowsOf_length] at h2
      rw [← Lib.size_eq] at h4
      omega
    have hnum0 : (0 : Int) ≤ num := by omega
    have hlin : (line.length : Int) + st ≤ s.size := by
      have := upTo_le 10 (s.data.toList.drop st)
      rw [hline, List.length_drop, ← Lib.size_eq] at this
      omega
    have HL := Lib.hid hline
    have HR := Lib.hid hrest
    have HM := Lib.hid hmore
    clear hline hrest hmore
    have hpre : pre ++ [⟨num, st, line⟩] <+: rowsOf s.data.toList := by
      obtain ⟨rs, hr, _⟩ := hat.row
      rw [HL.out] at hr
      exact ⟨rs, by rw [hr]; simp⟩
    gi_wp2_with fail
    refine ⟨trivial, fun h => (by cases h), (callsIn_wide.2 (HC.out _)).mono ?_⟩
    clear HC
    rintro e w' ⟨rfl, nd, rfl⟩
    have hwd : wr.grownBy (wr.drewN nd) none := ⟨rfl, rfl, rfl, Nat.le_refl _, fun _ _ _ => rfl⟩
    obtain ⟨fn, tmps, assign, body, hy, hR⟩ := hY pre ⟨num, st, line⟩ ((wr.drewN nd).setCell ⟨W.heap.size, 2, none⟩ (.string (B line)))
      (hJ _ _ _ (some W.heap.size) (hJ _ _ _ none hJw hwd (fun _ h => by cases h)) (grownBy_at _ _ _) (fun r h => by cases h; omega)) hat.row.choose_spec.2 hpre (by simp [World.setCell]; omega)
    dsimp only [encRow] at hy
    gi_wp2_with fail
    refine ⟨fun h => (by cases h), hR.mono ?_⟩
    have hne1 : (⟨W.heap.size, 2, none⟩ : Addr) ≠ ⟨W.heap.size, 1, none⟩ := by intro h; cases h
    have hne0 : (⟨W.heap.size, 2, none⟩ : Addr) ≠ ⟨W.heap.size, 0, none⟩ := by intro h; cases h
    have hneb : (⟨W.heap.size, 2, none⟩ : Addr) ≠ ⟨bt, 0, none⟩ := by intro h; cases h
    have d0 : ((wr.drewN nd).setCell ⟨W.heap.size, 2, none⟩ (.string (B line))).cell? ⟨W.heap.size, 0, none⟩ = some (.int .i64 num) := (cell_other hne0).trans (by simpa using c0)
    have d1 : ((wr.drewN nd).setCell ⟨W.heap.size, 2, none⟩ (.string (B line))).cell? ⟨W.heap.size, 1, none⟩ = some (.int .i64 st) := (cell_other hne1).trans (by simpa using c1)
    have d2 : ((wr.drewN nd).setCell ⟨W.heap.size, 2, none⟩ (.string (B line))).cell? ⟨W.heap.size, 2, none⟩ = some (.string (B line)) := World.cell?_setCell_same' _ _ _ (by simp [c2])
    have db : ((wr.drewN nd).setCell ⟨W.heap.size, 2, none⟩ (.string (B line))).cell? ⟨bt, 0, none⟩ = some (.string s) := (cell_other hneb).trans (by simpa using hcw)
    have g0 : ((wr.drewN nd).setCell ⟨W.heap.size, 2, none⟩ (.string (B line))).frozen? ⟨W.heap.size, 0, none⟩ = false := by simpa using f0
    have g1 : ((wr.drewN nd).setCell ⟨W.heap.size, 2, none⟩ (.string (B line))).frozen? ⟨W.heap.size, 1, none⟩ = false := by simpa using f1
    have g2 : ((wr.drewN nd).setCell ⟨W.heap.size, 2, none⟩ (.string (B line))).frozen? ⟨W.heap.size, 2, none⟩ = false := by simpa using f2
    have hws : W.heap.size < ((wr.drewN nd).setCell ⟨W.heap.size, 2, none⟩ (.string (B line))).heap.size := by simp [World.setCell]; omega
    generalize (wr.drewN nd).setCell ⟨W.heap.size, 2, none⟩ (.string (B line)) = W1 at d0 d1 d2 db g0 g1 g2 hws ⊢
    clear hR hy f0 f1 f2 c2 hcw
    rintro e W3 (⟨rfl, hJ3, hk1, hk2⟩ | ⟨rfl, hJx3⟩)
    · have e0 : W3.cell? ⟨W.heap.size, 0, none⟩ = some (.int .i64 num) := hk2.cell (Nat.le_refl _) (show W.heap.size < W.heap.size + 1 by omega) d0
      have e1 : W3.cell? ⟨W.heap.size, 1, none⟩ = some (.int .i64 st) := hk2.cell (Nat.le_refl _) (show W.heap.size < W.heap.size + 1 by omega) d1
      have e2 : W3.cell? ⟨W.heap.size, 2, none⟩ = some (.string (B line)) := hk2.cell (Nat.le_refl _) (show W.heap.size < W.heap.size + 1 by omega) d2
      have eb : W3.cell? ⟨bt, 0, none⟩ = some (.string s) := hk1.cell hlo hbt db
      have k0 : W3.frozen? ⟨W.heap.size, 0, none⟩ = false := (hk2.frozen (Nat.le_refl _) (show W.heap.size < W.heap.size + 1 by omega) hws).trans g0
      have k1 : W3.frozen? ⟨W.heap.size, 1, none⟩ = false := (hk2.frozen (Nat.le_refl _) (show W.heap.size < W.heap.size + 1 by omega) hws).trans g1
      have k2 : W3.frozen? ⟨W.heap.size, 2, none⟩ = false := (hk2.frozen (Nat.le_refl _) (show W.heap.size < W.heap.size + 1 by omega) hws).trans g2
      have hw3 : W.heap.size + 1 ≤ W3.heap.size := by have := hk2.size; omega
      clear d0 d1 d2 db g0 g1 g2 hk1 hk2
      cases more with
      | false =>
        gi_wp2_with fail
        refine bodyPost_ret (results_none rfl _ _ _) rfl ⟨⟨_, rfl⟩, .inl ⟨_, ?_, hJ3⟩⟩
        have hb : behind 10 (s.data.toList.drop st) = none := by have := HM.out; simpa using this
        have := hat.last hb
        rw [HL.out] at this
        exact this.symm
      | true =>
        gi_wp2_with fail
        have hb : ∃ r, behind 10 (s.data.toList.drop st) = some r := by have := HM.out; exact Option.isSome_iff_exists.1 this
        obtain ⟨r, hb⟩ := hb
        have hat2 := hat.next hb
        rw [HL.out] at hat2
        have en : ((num + 1 : Nat) : Int) = num + 1 := by omega
        have es : ((st + line.length + 1 : Nat) : Int) = st + (line.length + 1) := by omega
        rw [← en, ← es]
        have hH := (Held.mk e0 e1 e2 k0 k1 k2).step (num + 1) (st + line.length + 1)
        refine ⟨⟨_, _, _, _, hat2, hJ _ _ _ (some W.heap.size) (hJ _ _ _ (some W.heap.size) hJ3 (grownBy_at _ _ _) (fun r h => by cases h; omega)) (grownBy_at _ _ _) (fun r h => by cases h; omega), hH, ?_, by simp [World.setCell]; omega⟩, ?_⟩
        · exact (cell_other (by intro h; cases h)).trans ((cell_other (by intro h; cases h; omega)).trans eb)
        · have hl := hat2.le
          rw [← Lib.size_eq] at hl
          simp only [leftOf, hH.c1, c1]
          omega
    · gi_wp2_with fail
      refine bodyPost_ret (results_none rfl _ _ _) rfl ⟨⟨_, rfl⟩, .inr ⟨_, hpre, hJx3⟩⟩
end Go.Proofs.YthjpcfohpbbacaaDoor
