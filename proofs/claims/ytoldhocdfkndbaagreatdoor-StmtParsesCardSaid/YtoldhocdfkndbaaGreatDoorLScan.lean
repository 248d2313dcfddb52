/-
  Scan, of both: contracts. Written by gen_scan.py.
-/
import Derived.Test.YtoldhocdfkndbaaGreatDoorLToken
import Derived.Test.YtoldhocdfkndbaaGreatDoorLSkip
import Derived.Deep.AppendLies
import Derived.Maps.AppendAt
namespace Go.Proofs.YtoldhocdfkndbaaGreatDoor.L4
open Go Go.RowKit Go.Sort

theorem info_partsT {T : TypeId} {z : Value} {n b : Nat} (h : (Tryz.prog.info? T).map (fun i => (i.zero, i.size, i.bytes)) = some (some z, n, b)) : ∃ i, Tryz.prog.info? T = some i ∧ i.zero = some z ∧ i.size = n ∧ i.bytes = b := by
  cases hq : Tryz.prog.info? T with
  | none => rw [hq] at h; cases h
  | some i =>
    rw [hq] at h
    simp at h
    exact ⟨i, rfl, h.1, h.2.1, h.2.2⟩
theorem infoTok : (Tryz.prog.info? 44).map (fun i => (i.zero, i.size, i.bytes)) = some (some (.agg #[.int .i64 0, .string ⟨#[]⟩, .int .i64 0]), 3, 32) := by kernel_rfl
theorem news_new (W : World) (vs : List Value) (T : TypeId) (H : Nat) (hH : W.heap.size = H) : ∀ j u, vs[j]? = some u → (W.alloc (.cells vs.toArray T)).cell? ((⟨H, 0, none⟩ : Addr).add j) = some u := by
  intro j u hj
  subst hH
  rw [show (Addr.add ⟨W.heap.size, 0, none⟩ j) = ⟨W.heap.size, j, none⟩ by unfold Addr.add; split <;> simp_all]
  rw [cell_of_row _ _ j _ _ _ (heap_alloc_new W _)]
  simpa using hj
def tkC (t : Tk) : List Value := [.int .i64 t.k, .string (B t.t), .int .i64 (t.a : Int)]
def flatT (l : List Tk) : List Value := l.flatMap tkC
theorem flatT_snoc (l : List Tk) (t : Tk) : flatT (l ++ [t]) = flatT l ++ tkC t := by simp [flatT]
/-- What Scan has put into its list when it stands at a. -/
def ScI (base : Nat) (T : TypeId) (s : Bytes) (a : Nat) (v : Value) (l : List Tk) (w wr : World) : Prop :=
  wr.ownsRow base T 3 v l.length (flatT l) ∧ Below base w wr ∧ l.length ≤ a ∧ ∃ F, s.length < F + a ∧ scan s = (l ++ (scN s F a).1, (scN s F a).2)
theorem ScI.start (base : Nat) (T : TypeId) (s : Bytes) (w wr : World) (h : Below base w wr) : ScI base T s (skAt s 0) (.slice none 0 0) [] w wr :=
  ⟨World.ownsRow_nil _ _ _ _, h, by simp, s.length + 1, by omega, rfl⟩
theorem ScI.fin {base : Nat} {T : TypeId} {s : Bytes} {v : Value} {l : List Tk} {w wr : World} (h : ScI base T s s.length v l w wr) : scan s = (l, none) := by
  obtain ⟨_, _, _, F, hF, hs⟩ := h
  rw [hs]
  cases F with
  | zero => simp [scN]
  | succ F => simp [scN]
theorem tok_room {s : Bytes} {a : Nat} {k : Int} {t : Bytes} (h : tok (s.drop a) = (k, t)) (hk : k ≠ 0) : a + t.length ≤ s.length ∧ 0 < t.length := by
  obtain ⟨_, h2, h3⟩ := tok_is h hk
  have hp := List.length_pos_iff.2 h3
  have := h2.length_le
  rw [List.length_drop] at this
  constructor
  · omega
  · exact hp
theorem ScI.step {base : Nat} {T : TypeId} {s : Bytes} {a : Nat} {v v' : Value} {l : List Tk} {w wr w8 : World} {k : Int} {t : Bytes} (h : ScI base T s a v l w wr) (ha : a < s.length) (ht : tok (s.drop a) = (k, t)) (hk : k ≠ 0)
    (ho : w8.ownsRow base T 3 v' (l.length + 1) (flatT l ++ tkC ⟨k, t, a⟩)) (hb : Below base w w8) : ScI base T s (skAt s (a + t.length)) v' (l ++ [⟨k, t, a⟩]) w w8 := by
  obtain ⟨_, _, hl, F, hF, hs⟩ := h
  obtain ⟨h1, h2⟩ := tok_room ht hk
  have h3 := skAt_le s (a + t.length) h1
  refine ⟨by rw [flatT_snoc]; simpa using ho, hb, by simp; omega, ?_⟩
  cases F with
  | zero => omega
  | succ F =>
    refine ⟨F, by omega, ?_⟩
    rw [hs]
    simp only [scN, if_pos ha, ht, if_neg hk]
    simp
/-- What Scan returns. -/
def ScanE (base : Nat) (T : TypeId) (s : Bytes) (e : Ending) (w' : World) : Prop :=
  (∀ a, (scan s).2 = some a → e = .returned (.tuple #[.slice none 0 0, .int .i64 (a : Int), .int .i64 7])) ∧
  ((scan s).2 = none → ∃ v, e = .returned (.tuple #[v, .int .i64 0, .int .i64 0]) ∧ w'.ownsRow base T 3 v (scan s).1.length (flatT (scan s).1))
theorem ScanE.bad {base : Nat} {T : TypeId} {s : Bytes} {a : Nat} {w' : World} (h : (scan s).2 = some a) : ScanE base T s (.returned (.tuple #[.slice none 0 0, .int .i64 (a : Int), .int .i64 7])) w' := by
  refine ⟨fun b hb => ?_, fun hn => ?_⟩
  · rw [h] at hb; cases hb; rfl
  · rw [h] at hn; cases hn
end Go.Proofs.YtoldhocdfkndbaaGreatDoor.L4
