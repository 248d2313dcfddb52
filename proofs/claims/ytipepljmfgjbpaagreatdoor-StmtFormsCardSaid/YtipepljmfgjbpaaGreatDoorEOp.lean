/-
  expr.Op, expr.Sign: contracts. Written by gen5_op.py.
-/
import Derived.Test.YtipepljmfgjbpaaGreatDoorSBx
import Derived.Test.YtipepljmfgjbpaaGreatDoorEMath
import Derived.Deep.MidRow
import Derived.Deep.WholeRow
namespace Go.Proofs.YtipepljmfgjbpaaGreatDoor.E5
open Go Go.RowKit Go.Proofs.YtipepljmfgjbpaaGreatDoor

abbrev B (l : Bytes) : ByteArray := ⟨l.toArray⟩
theorem after {w W W' : World} (h : Below w.heap.size w W) (hb : Below W.heap.size W W') : Below w.heap.size w W' := h.trans (hb.mono h.size)
def opRow : Array Value := #[.string ⟨#[124, 124]⟩, .int .i64 13, .int .i64 1, .string ⟨#[38, 38]⟩, .int .i64 12, .int .i64 2, .string ⟨#[61, 61]⟩, .int .i64 6, .int .i64 3, .string ⟨#[33, 61]⟩, .int .i64 7, .int .i64 3, .string ⟨#[60]⟩, .int .i64 8, .int .i64 3, .string ⟨#[60, 61]⟩, .int .i64 9, .int .i64 3, .string ⟨#[62]⟩, .int .i64 10, .int .i64 3, .string ⟨#[62, 61]⟩, .int .i64 11, .int .i64 3, .string ⟨#[43]⟩, .int .i64 1, .int .i64 4, .string ⟨#[45]⟩, .int .i64 2, .int .i64 4, .string ⟨#[42]⟩, .int .i64 3, .int .i64 5, .string ⟨#[47]⟩, .int .i64 4, .int .i64 5, .string ⟨#[37]⟩, .int .i64 5, .int .i64 5]
def opArr : Value := .agg opRow
set_option maxRecDepth 100000 in
theorem opi_0 : ∀ w : World, (Instr.index 124 opArr (.int .i64 0)).run Tryz.prog w = .ok (.agg #[.string ⟨#[124, 124]⟩, .int .i64 13, .int .i64 1]) w := fun _ => by kernel_rfl
set_option maxRecDepth 100000 in
theorem opi_1 : ∀ w : World, (Instr.index 124 opArr (.int .i64 1)).run Tryz.prog w = .ok (.agg #[.string ⟨#[38, 38]⟩, .int .i64 12, .int .i64 2]) w := fun _ => by kernel_rfl
set_option maxRecDepth 100000 in
theorem opi_2 : ∀ w : World, (Instr.index 124 opArr (.int .i64 2)).run Tryz.prog w = .ok (.agg #[.string ⟨#[61, 61]⟩, .int .i64 6, .int .i64 3]) w := fun _ => by kernel_rfl
set_option maxRecDepth 100000 in
theorem opi_3 : ∀ w : World, (Instr.index 124 opArr (.int .i64 3)).run Tryz.prog w = .ok (.agg #[.string ⟨#[33, 61]⟩, .int .i64 7, .int .i64 3]) w := fun _ => by kernel_rfl
set_option maxRecDepth 100000 in
theorem opi_4 : ∀ w : World, (Instr.index 124 opArr (.int .i64 4)).run Tryz.prog w = .ok (.agg #[.string ⟨#[60]⟩, .int .i64 8, .int .i64 3]) w := fun _ => by kernel_rfl
set_option maxRecDepth 100000 in
theorem opi_5 : ∀ w : World, (Instr.index 124 opArr (.int .i64 5)).run Tryz.prog w = .ok (.agg #[.string ⟨#[60, 61]⟩, .int .i64 9, .int .i64 3]) w := fun _ => by kernel_rfl
set_option maxRecDepth 100000 in
theorem opi_6 : ∀ w : World, (Instr.index 124 opArr (.int .i64 6)).run Tryz.prog w = .ok (.agg #[.string ⟨#[62]⟩, .int .i64 10, .int .i64 3]) w := fun _ => by kernel_rfl
set_option maxRecDepth 100000 in
theorem opi_7 : ∀ w : World, (Instr.index 124 opArr (.int .i64 7)).run Tryz.prog w = .ok (.agg #[.string ⟨#[62, 61]⟩, .int .i64 11, .int .i64 3]) w := fun _ => by kernel_rfl
set_option maxRecDepth 100000 in
theorem opi_8 : ∀ w : World, (Instr.index 124 opArr (.int .i64 8)).run Tryz.prog w = .ok (.agg #[.string ⟨#[43]⟩, .int .i64 1, .int .i64 4]) w := fun _ => by kernel_rfl
set_option maxRecDepth 100000 in
theorem opi_9 : ∀ w : World, (Instr.index 124 opArr (.int .i64 9)).run Tryz.prog w = .ok (.agg #[.string ⟨#[45]⟩, .int .i64 2, .int .i64 4]) w := fun _ => by kernel_rfl
set_option maxRecDepth 100000 in
theorem opi_10 : ∀ w : World, (Instr.index 124 opArr (.int .i64 10)).run Tryz.prog w = .ok (.agg #[.string ⟨#[42]⟩, .int .i64 3, .int .i64 5]) w := fun _ => by kernel_rfl
set_option maxRecDepth 100000 in
theorem opi_11 : ∀ w : World, (Instr.index 124 opArr (.int .i64 11)).run Tryz.prog w = .ok (.agg #[.string ⟨#[47]⟩, .int .i64 4, .int .i64 5]) w := fun _ => by kernel_rfl
set_option maxRecDepth 100000 in
theorem opi_12 : ∀ w : World, (Instr.index 124 opArr (.int .i64 12)).run Tryz.prog w = .ok (.agg #[.string ⟨#[37]⟩, .int .i64 5, .int .i64 5]) w := fun _ => by kernel_rfl
def opAt (k : Nat) : Bytes × Int × Int := opsL.getD k ([], 0, 0)
theorem op_at (k : Nat) (h : k < 13) : ∀ w : World, (Instr.index 124 opArr (.int .i64 (k : Int))).run Tryz.prog w = .ok (.agg #[.string (B (opAt k).1), .int .i64 (opAt k).2.1, .int .i64 (opAt k).2.2]) w := by
  match k, h with
  | 0, _ => exact opi_0
  | 1, _ => exact opi_1
  | 2, _ => exact opi_2
  | 3, _ => exact opi_3
  | 4, _ => exact opi_4
  | 5, _ => exact opi_5
  | 6, _ => exact opi_6
  | 7, _ => exact opi_7
  | 8, _ => exact opi_8
  | 9, _ => exact opi_9
  | 10, _ => exact opi_10
  | 11, _ => exact opi_11
  | 12, _ => exact opi_12
  | k + 13, h => exact absurd h (by omega)
structure GlobO (w : World) : Prop where
  row : w.rangeAt 2 0 opRow.toList
  lt : 2 < w.heap.size
theorem GlobO.bel {w w' : World} {M : Nat} (h : GlobO w) (hM : 6 < M) (hb : Below M w w') : GlobO w' :=
  ⟨fun j v hv => (hb.cell (p := ⟨2, _, none⟩) (by show 2 < M; omega)).trans (h.row j v hv), Nat.lt_of_lt_of_le h.lt hb.size⟩
theorem GlobO.up {w w' : World} (h : GlobO w) (hb : Below w.heap.size w w') : GlobO w' :=
  ⟨fun j v hv => (hb.cell (p := ⟨2, _, none⟩) h.lt).trans (h.row j v hv), Nat.lt_of_lt_of_le h.lt hb.size⟩
theorem op_no {s : Bytes} (h : ∀ j, j < 13 → (opAt j).1 ≠ s) : opB s = (0, 0) := by
  unfold opB
  rw [List.find?_eq_none.2 fun x hx => ?_]
  obtain ⟨i, hi, rfl⟩ := List.getElem_of_mem hx
  have := h i hi
  unfold opAt at this
  rw [List.getD_eq_getElem?_getD, List.getElem?_eq_getElem hi] at this
  simpa using this
theorem op_yes {s : Bytes} {k : Nat} (hk : k < 13) (h : ∀ j, j < k → (opAt j).1 ≠ s) (h1 : (opAt k).1 = s) : opB s = (opAt k).2 := by
  have hl : k < opsL.length := hk
  have e : opAt k = opsL[k] := by unfold opAt; rw [List.getD_eq_getElem?_getD, List.getElem?_eq_getElem hl]; rfl
  unfold opB
  rw [e] at h1 ⊢
  rw [(List.find?_eq_some_iff_getElem (p := fun r : Bytes × Int × Int => r.1 == s)).2 ⟨by simpa using h1, k, hl, rfl, fun j hj => ?_⟩]
  have := h j hj
  unfold opAt at this
  rw [List.getD_eq_getElem?_getD, List.getElem?_eq_getElem (by omega)] at this
  simpa using this
set_option maxRecDepth 100000 in
set_option maxHeartbeats 2000000 in
theorem op_calls (s : Bytes) (w : World) (hG : GlobO w) :
    Calls Tryz.prog 84 #[.string (B s)] w fun e w' => e = .returned (.tuple #[.int .i64 (opB s).1, .int .i64 (opB s).2]) ∧ Below w.heap.size w w' := by
  have hi' : (Tryz.prog.info? 124).map (·.size) = some opRow.toList.length := by kernel_rfl
  have HR := Lib.hid hG.row
  clear hG
  go_enter Tryz.func84, Tryz.ntmps84
  go_wp2_with (refine wpList_load_mid rfl 124 _ rfl 2 0 rfl opRow.toList _ HR.out Tryz.underlying124 rfl hi' ?_; rw [show Value.agg opRow.toList.toArray = opArr from rfl])
  clear hi' HR
  go_loopw [7] (fun i wr => ∃ k : Nat, k ≤ 13 ∧ i = .int .i64 k ∧ Hid (Below w.heap.size w wr) ∧ Hid (∀ j, j < k → (opAt j).1 ≠ s)) (fun i _ => 13 - (intOf i).toNat)
  case atStart => exact ⟨0, by omega, rfl, Lib.hid (Below.refl _ _), Lib.hid (fun j hj => by omega)⟩
  case round =>
    obtain ⟨k, hk, rfl, HB, H⟩ := hrel
    by_cases hlt : k < 13
    · have hi := op_at k hlt
      have hal := Lib.hid (fun o => HB.out.alloc HB.out.size o)
      have e0 : (k : Int) < 13 := by omega
      by_cases hp : (opAt k).1 = s
      · have HP := Lib.hid (op_yes hlt H.out hp)
        have hq : ((opAt k).1 == s) = true := by rw [hp]; exact beq_self_eq_true _
        generalize opAt k = p at *
        obtain ⟨p1, p2, p3⟩ := p
        clear hp H
        go_wp2_with fail
        go_region
        go_wp2_with fail
        go_ret2
        exact ⟨by rw [HP.out] <;> rfl, by first | exact HB.out.alloc HB.out.size _ | exact (HB.out.alloc HB.out.size _).drew⟩
      · have HP := Lib.hid hp
        have hq : ((opAt k).1 == s) = false := beq_eq_false_iff_ne.2 hp
        clear hp
        have HK := Lib.hid (show ∀ j, j < k + 1 → (opAt j).1 ≠ s from fun j hj => by
          rcases Nat.lt_or_ge j k with h1 | h1
          · exact H.out j h1
          · obtain rfl : j = k := by omega
            exact HP.out)
        generalize opAt k = p at *
        obtain ⟨p1, p2, p3⟩ := p
        clear H HP
        go_wp2_with fail
        go_roundw
        case rel => exact ⟨k + 1, by omega, by go_num, Lib.hid (HB.out.alloc HB.out.size _), HK⟩
        case measure => simp [intOf]; omega
    · obtain rfl : k = 13 := by omega
      have HP := Lib.hid (op_no H.out)
      clear H
      go_wp2_with fail
      go_ret2
      exact ⟨by rw [HP.out]; rfl, HB.out⟩

end Go.Proofs.YtipepljmfgjbpaaGreatDoor.E5

