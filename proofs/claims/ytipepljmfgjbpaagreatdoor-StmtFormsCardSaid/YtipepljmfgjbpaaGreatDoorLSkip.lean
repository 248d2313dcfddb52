/-
  skip, of both: contracts.
  lexeme.Signs, firstSign: contracts.
  token: its contract.
  Scan, of both: contracts. Written by gen_scan.py.
  Lists of tokens in memory; wrong, has: contracts.
-/
import Derived.Test.YtipepljmfgjbpaaGreatDoorLRow
import Derived.Test.YtipepljmfgjbpaaGreatDoorCut
import Derived.WalkMore
import Derived.Deep.MidRow
import Derived.Deep.WholeRow
import Derived.BigRegion
import Derived.Deep.RegionWith
import Derived.Deep.AppendLies
import Derived.Maps.AppendAt
import Derived.BigQuiet
namespace Go.Proofs.YtipepljmfgjbpaaGreatDoor.L4
open Go Go.RowKit Go.Sort

end Go.Proofs.YtipepljmfgjbpaaGreatDoor.L4

namespace Go.Proofs.YtipepljmfgjbpaaGreatDoor.L4
open Go Go.RowKit Go.Sort

end Go.Proofs.YtipepljmfgjbpaaGreatDoor.L4

namespace Go.Proofs.YtipepljmfgjbpaaGreatDoor.L4
open Go Go.RowKit Go.Sort

def TokAt (w : World) (b : Nat) (c0 c1 c2 : Value) : Prop := w.heap[b]? = some (.cells #[c0, c1, c2] 33)
theorem TokAt.at_ {w : World} {b : Nat} {c0 c1 c2 : Value} (h : TokAt w b c0 c1 c2) : w.cell? ⟨b, 0, none⟩ = some c0 ∧ w.cell? ⟨b, 1, none⟩ = some c1 ∧ w.cell? ⟨b, 2, none⟩ = some c2 := by
  refine ⟨?_, ?_, ?_⟩ <;> rw [cell_of_row _ _ _ _ _ _ h] <;> rfl
theorem TokAt.free {w : World} {b : Nat} {c0 c1 c2 : Value} (h : TokAt w b c0 c1 c2) (i : Nat) : w.frozen? ⟨b, i, none⟩ = false := by
  unfold World.frozen?
  rw [show w.heap[(⟨b, i, none⟩ : Addr).block]? = _ from h]
  simp
theorem TokAt.below {w w' : World} {b : Nat} {c0 c1 c2 : Value} (h : TokAt w b c0 c1 c2) (hb : Below w.heap.size w w') : TokAt w' b c0 c1 c2 := by
  have hl : b < w.heap.size := by
    rcases Nat.lt_or_ge b w.heap.size with h1 | h1
    · exact h1
    · unfold TokAt at h; rw [Array.getElem?_eq_none h1] at h; cases h
  exact (hb.block b hl).trans h
theorem TokAt.new (w : World) (c0 c1 c2 : Value) : TokAt (w.alloc (.cells #[c0, c1, c2] 33)) w.heap.size c0 c1 c2 := heap_alloc_new w _
end Go.Proofs.YtipepljmfgjbpaaGreatDoor.L4

namespace Go.Proofs.YtipepljmfgjbpaaGreatDoor.L4
open Go Go.RowKit Go.Sort

theorem info_partsT {T : TypeId} {z : Value} {n b : Nat} (h : (Tryz.prog.info? T).map (fun i => (i.zero, i.size, i.bytes)) = some (some z, n, b)) : ∃ i, Tryz.prog.info? T = some i ∧ i.zero = some z ∧ i.size = n ∧ i.bytes = b := by
  cases hq : Tryz.prog.info? T with
  | none => rw [hq] at h; cases h
  | some i =>
    rw [hq] at h
    simp at h
    exact ⟨i, rfl, h.1, h.2.1, h.2.2⟩
theorem infoTok : (Tryz.prog.info? 33).map (fun i => (i.zero, i.size, i.bytes)) = some (some (.agg #[.int .i64 0, .string ⟨#[]⟩, .int .i64 0]), 3, 32) := by kernel_rfl
theorem news_new (W : World) (vs : List Value) (T : TypeId) (H : Nat) (hH : W.heap.size = H) : ∀ j u, vs[j]? = some u → (W.alloc (.cells vs.toArray T)).cell? ((⟨H, 0, none⟩ : Addr).add j) = some u := by
  intro j u hj
  subst hH
  rw [show (Addr.add ⟨W.heap.size, 0, none⟩ j) = ⟨W.heap.size, j, none⟩ by unfold Addr.add; split <;> simp_all]
  rw [cell_of_row _ _ j _ _ _ (heap_alloc_new W _)]
  simpa using hj
def tkC (t : Tk) : List Value := [.int .i64 t.k, .string (B t.t), .int .i64 (t.a : Int)]
def flatT (l : List Tk) : List Value := l.flatMap tkC
theorem flatT_snoc (l : List Tk) (t : Tk) : flatT (l ++ [t]) = flatT l ++ tkC t := by simp [flatT]
/-- What Scan has put into its list when it stands at a. -/
def ScI (base : Nat) (T : TypeId) (s : Bytes) (a : Nat) (v : Value) (l : List Tk) (w wr : World) : Prop :=
  wr.ownsRow base T 3 v l.length (flatT l) ∧ Below base w wr ∧ l.length ≤ a ∧ ∃ F, s.length < F + a ∧ scan s = (l ++ (scN s F a).1, (scN s F a).2)
theorem ScI.start (base : Nat) (T : TypeId) (s : Bytes) (w wr : World) (h : Below base w wr) : ScI base T s (skAt s 0) (.slice none 0 0) [] w wr :=
  ⟨World.ownsRow_nil _ _ _ _, h, by simp, s.length + 1, by omega, rfl⟩
theorem ScI.stop {base : Nat} {T : TypeId} {s : Bytes} {a : Nat} {v : Value} {l : List Tk} {w wr : World} (h : ScI base T s a v l w wr) (ha : a < s.length) (ht : (tok (s.drop a)).1 = 0) : (scan s).2 = some a := by
  obtain ⟨_, _, _, F, hF, hs⟩ := h
  rw [hs]
  cases F with
  | zero => omega
  | succ F => simp only [scN, if_pos ha, if_pos ht]
theorem ScI.fin {base : Nat} {T : TypeId} {s : Bytes} {v : Value} {l : List Tk} {w wr : World} (h : ScI base T s s.length v l w wr) : scan s = (l, none) := by
  obtain ⟨_, _, _, F, hF, hs⟩ := h
  rw [hs]
  cases F with
  | zero => simp [scN]
  | succ F => simp [scN]
theorem tok_room {s : Bytes} {a : Nat} {k : Int} {t : Bytes} (h : tok (s.drop a) = (k, t)) (hk : k ≠ 0) : a + t.length ≤ s.length ∧ 0 < t.length := by
  obtain ⟨_, h2, h3⟩ := tok_is h hk
  have hp := List.length_pos_iff.2 h3
  have := h2.length_le
  rw [List.length_drop] at this
  constructor
  · omega
  · exact hp
theorem ScI.step {base : Nat} {T : TypeId} {s : Bytes} {a : Nat} {v v' : Value} {l : List Tk} {w wr w8 : World} {k : Int} {t : Bytes} (h : ScI base T s a v l w wr) (ha : a < s.length) (ht : tok (s.drop a) = (k, t)) (hk : k ≠ 0)
    (ho : w8.ownsRow base T 3 v' (l.length + 1) (flatT l ++ tkC ⟨k, t, a⟩)) (hb : Below base w w8) : ScI base T s (skAt s (a + t.length)) v' (l ++ [⟨k, t, a⟩]) w w8 := by
  obtain ⟨_, _, hl, F, hF, hs⟩ := h
  obtain ⟨h1, h2⟩ := tok_room ht hk
  have h3 := skAt_le s (a + t.length) h1
  refine ⟨by rw [flatT_snoc]; simpa using ho, hb, by simp; omega, ?_⟩
  cases F with
  | zero => omega
  | succ F =>
    refine ⟨F, by omega, ?_⟩
    rw [hs]
    simp only [scN, if_pos ha, ht, if_neg hk]
    simp
/-- What Scan returns. -/
def ScanE (base : Nat) (T : TypeId) (s : Bytes) (e : Ending) (w' : World) : Prop :=
  (∀ a, (scan s).2 = some a → e = .returned (.tuple #[.slice none 0 0, .int .i64 (a : Int), .int .i64 7])) ∧
  ((scan s).2 = none → ∃ v, e = .returned (.tuple #[v, .int .i64 0, .int .i64 0]) ∧ w'.ownsRow base T 3 v (scan s).1.length (flatT (scan s).1))
theorem ScanE.bad {base : Nat} {T : TypeId} {s : Bytes} {a : Nat} {w' : World} (h : (scan s).2 = some a) : ScanE base T s (.returned (.tuple #[.slice none 0 0, .int .i64 (a : Int), .int .i64 7])) w' := by
  refine ⟨fun b hb => ?_, fun hn => ?_⟩
  · rw [h] at hb; cases hb; rfl
  · rw [h] at hn; cases hn
end Go.Proofs.YtipepljmfgjbpaaGreatDoor.L4

namespace Go.Proofs.YtipepljmfgjbpaaGreatDoor.L4
open Go Go.RowKit Go.Sort

/-- A slice value that reads as these tokens. -/
def Toks (W : World) (v : Value) (l : List Tk) : Prop :=
  (l = [] ∧ ∃ A c, v = .slice A 0 c) ∨
  (l ≠ [] ∧ ∃ b o c, v = .slice (some ⟨b, o, none⟩) l.length c ∧ b < W.heap.size ∧ ∀ (i : Nat) t, l[i]? = some t →
    W.cell? ⟨b, o + i * 3, none⟩ = some (.int .i64 t.k) ∧ W.cell? ⟨b, o + i * 3 + 1, none⟩ = some (.string (B t.t)) ∧ W.cell? ⟨b, o + i * 3 + 2, none⟩ = some (.int .i64 (t.a : Int)))
theorem Toks.below {W W' : World} {v : Value} {l : List Tk} (h : Toks W v l) (hb : Below W.heap.size W W') : Toks W' v l := by
  rcases h with h | ⟨hn, b, o, c, hv, hl, hc⟩
  · exact .inl h
  · refine .inr ⟨hn, b, o, c, hv, Nat.lt_of_lt_of_le hl hb.size, fun i t ht => ?_⟩
    obtain ⟨c0, c1, c2⟩ := hc i t ht
    exact ⟨(hb.cell (p := ⟨b, _, none⟩) hl).trans c0, (hb.cell (p := ⟨b, _, none⟩) hl).trans c1, (hb.cell (p := ⟨b, _, none⟩) hl).trans c2⟩
theorem Toks.slice {W : World} {v : Value} {l : List Tk} (h : Toks W v l) : ∃ A c, v = .slice A l.length c := by
  rcases h with ⟨rfl, A, c, rfl⟩ | ⟨_, b, o, c, rfl, _⟩
  · exact ⟨A, c, rfl⟩
  · exact ⟨_, c, rfl⟩
theorem flatT_get (l : List Tk) : ∀ (i : Nat) (t : Tk) (j : Nat), l[i]? = some t → j < 3 → (flatT l)[i * 3 + j]? = (tkC t)[j]? := by
  induction l with
  | nil => intro i t j h; simp at h
  | cons x l ih =>
    intro i t j h hj
    have e : flatT (x :: l) = tkC x ++ flatT l := rfl
    rw [e]
    have h3 : (tkC x).length = 3 := rfl
    cases i with
    | zero =>
      simp at h; subst h
      rw [Nat.zero_mul, Nat.zero_add, List.getElem?_append_left (by omega)]
    | succ i =>
      rw [List.getElem?_append_right (by omega), h3, show (i + 1) * 3 + j - 3 = i * 3 + j by omega]
      exact ih i t j (by simpa using h) hj
theorem Toks.of_own {W : World} {base : Nat} {T : TypeId} {v : Value} {l : List Tk} (h : W.ownsRow base T 3 v l.length (flatT l)) : Toks W v l := by
  rcases Nat.eq_zero_or_pos l.length with h0 | h0
  · obtain rfl := List.eq_nil_of_length_eq_zero h0
    rcases h.2 with ⟨rfl, _⟩ | ⟨g, cap, cur, rfl, _⟩
    · exact .inl ⟨rfl, _, _, rfl⟩
    · exact .inl ⟨rfl, _, _, rfl⟩
  · rcases h.2 with ⟨_, h1⟩ | ⟨g, cap, cur, rfl, hg, hcell, _⟩
    · omega
    · have hgl : g < W.heap.size := by
        rcases Nat.lt_or_ge g W.heap.size with hlt | hge
        · exact hlt
        · rw [Array.getElem?_eq_none hge] at hcell; cases hcell
      refine .inr ⟨by rintro rfl; simp at h0, g, 0, cap, rfl, hgl, fun i t ht => ?_⟩
      have hi := (List.getElem?_eq_some_iff.1 ht).1
      refine ⟨?_, ?_, ?_⟩
      · rw [Nat.zero_add, h.cellAt (i * 3) (by omega)]; exact (flatT_get l i t 0 ht (by decide))
      · rw [Nat.zero_add, h.cellAt (i * 3 + 1) (by omega)]; exact (flatT_get l i t 1 ht (by decide))
      · rw [Nat.zero_add, h.cellAt (i * 3 + 2) (by omega)]; exact (flatT_get l i t 2 ht (by decide))

end Go.Proofs.YtipepljmfgjbpaaGreatDoor.L4
