/-
  ExprCuts, its examples' contract given.
-/
import Derived.Test.YtlhifbckmknijaaGreatDoorEMade
import Derived.Test.YtlhifbckmknijaaGreatDoorEText
import Derived.Test.YtlhifbckmknijaaGreatDoorEDraftL
import Derived.Test.YtlhifbckmknijaaGreatDoorETk
import Derived.Test.YtlhifbckmknijaaGreatDoorEBackP
import Derived.Test.YtlhifbckmknijaaGreatDoorEFrame
import Derived.Deep.AppendLies
namespace Go.Proofs.YtlhifbckmknijaaGreatDoor.E5
open Go Go.RowKit Go.Proofs.YtlhifbckmknijaaGreatDoor

theorem frc_below {p n : Nat} {w w' : World} (h : FrC p w w') (hp : n ≤ p) (hn : n ≤ w.heap.size) : Below n w w' := ⟨h.os, h.tape, h.output, h.size, fun k hk => h.block k (by omega) (by omega)⟩
theorem tokTake {W : World} {M k c : Nat} {A : Option Addr} {l : TL} (h : TokL W M (.slice A l.length c) l) (hk : k ≤ l.length) : TokL W M (.slice A k c) (l.take k) := by
  obtain ⟨A', c', h1, h2, h3⟩ := h
  obtain ⟨rfl, _, rfl⟩ := Value.slice.inj h1
  refine ⟨A, c, by rw [List.length_take, Nat.min_eq_left hk], by rw [List.length_take]; omega, fun i t ht => ?_⟩
  rw [List.getElem?_take] at ht
  split at ht
  · exact h3 i t ht
  · cases ht
theorem tokL_up {W W' : World} {v : Value} {l : TL} (h : TokL W W.heap.size v l) (hb : Below W.heap.size W W') : TokL W' W'.heap.size v l := (h.bel hb).keep hb.size fun _ _ _ => rfl
theorem tokDrop {W : World} {M j n c b o : Nat} {l : TL} (h : TokL W M (.slice (some ⟨b, o, none⟩) n c) l) (hj : j ≤ l.length) : TokL W M (.slice (some ⟨b, o + j * 3, none⟩) (n - j) (c - j)) (l.drop j) := by
  obtain ⟨A', c', h1, h2, h3⟩ := h
  cases h1
  refine ⟨_, _, by rw [List.length_drop], by rw [List.length_drop]; omega, fun i t ht => ?_⟩
  rw [List.getElem?_drop] at ht
  obtain ⟨e0, b', o', a, e1, e2, e3, e4, e5⟩ := h3 (j + i) t ht
  cases e1
  refine ⟨e0, b, o + j * 3, a, rfl, e2, ?_, ?_, ?_⟩
  · rw [show o + j * 3 + i * 3 = o + (j + i) * 3 by omega]; exact e3
  · rw [show o + j * 3 + i * 3 + 1 = o + (j + i) * 3 + 1 by omega]; exact e4
  · rw [show o + j * 3 + i * 3 + 2 = o + (j + i) * 3 + 2 by omega]; exact e5
/-- A draft that was cloned into its variable. -/
theorem dr_start {w : World} {p : Nat} {ds : List Nat} {u v : Value} {T : TypeId} (h1 : w.heap[p]? = some (.cells #[u] T (0, 0))) (hp : p < w.heap.size) (hv : BySl w w.heap.size p v ds) : Dr (w.setCell ⟨p, 0, none⟩ v) w.heap.size p ds := by
  refine ⟨⟨v, T, ?_, hv.fr (Nat.le_refl _) ((FrC.refl p w).set 0 v)⟩, hp, by simp [World.setCell]⟩
  simp only [World.setCell, Array.getElem?_modify, if_true, h1]
  rfl
theorem slice_tok (W : World) (b o n c j : Nat) (hj : j ≤ n) (hc : ¬ c = j) : (Instr.slice 22 (.slice (some ⟨b, o, none⟩) n c) (some (.int .i64 (j : Int))) none none).run Tryz.prog W = .ok (.slice (some ⟨b, o + j * 3, none⟩) (n - j) (c - j)) W := by
  have he : Tryz.prog.elem 22 = 26 := by kernel_rfl
  have ht' : Tryz.prog.underlying 22 = some (.slice (Tryz.prog.elem 22)) := by rw [he]; exact Tryz.underlying22
  obtain ⟨i0, hi, _, _, _⟩ := L4.info_partsT L4.infoTok
  have hz : (Go.sizeOf 26).run Tryz.prog W = .ok 3 W := by rw [run_sizeOf W hi]; exact congrArg (fun n => Result.ok n W) (by kernel_rfl : Tryz.prog.cellsOf 26 = 3)
  rw [run_slice_l W _ _ _ _ ht' .i64 _ (by omega) (by omega), he, hz]
  simp [Result.andThen, sliced, hc, add_plain]
end Go.Proofs.YtlhifbckmknijaaGreatDoor.E5
