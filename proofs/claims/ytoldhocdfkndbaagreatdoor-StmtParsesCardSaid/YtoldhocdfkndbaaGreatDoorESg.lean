/-
  The reference's signs and ranks, its Op and Sign: contracts.
-/
import Derived.Test.YtoldhocdfkndbaaGreatDoorEOp
import Derived.Deep.RegionWith
import Derived.IntWalk
namespace Go.Proofs.YtoldhocdfkndbaaGreatDoor.E5
open Go Go.RowKit Go.Proofs.YtoldhocdfkndbaaGreatDoor

def sgN : List Bytes := [[], [43], [45], [42], [47], [37], [61, 61], [33, 61], [60], [60, 61], [62], [62, 61], [38, 38], [124, 124], [45], [33]]
def rkN : List Int := [0, 4, 4, 5, 5, 5, 3, 3, 3, 3, 3, 3, 2, 1]
def sgV : Array Value := #[.string ⟨#[]⟩, .string ⟨#[43]⟩, .string ⟨#[45]⟩, .string ⟨#[42]⟩, .string ⟨#[47]⟩, .string ⟨#[37]⟩, .string ⟨#[61, 61]⟩, .string ⟨#[33, 61]⟩, .string ⟨#[60]⟩, .string ⟨#[60, 61]⟩, .string ⟨#[62]⟩, .string ⟨#[62, 61]⟩, .string ⟨#[38, 38]⟩, .string ⟨#[124, 124]⟩, .string ⟨#[45]⟩, .string ⟨#[33]⟩]
def rkV : Array Value := #[.int .i64 0, .int .i64 4, .int .i64 4, .int .i64 5, .int .i64 5, .int .i64 5, .int .i64 3, .int .i64 3, .int .i64 3, .int .i64 3, .int .i64 3, .int .i64 3, .int .i64 2, .int .i64 1]
theorem sgV_at (k : Nat) (h : k < 16) : sgV[k]? = some (.string (B (sgN.getD k []))) := by
  match k, h with
  | 0, _ => rfl
  | 1, _ => rfl
  | 2, _ => rfl
  | 3, _ => rfl
  | 4, _ => rfl
  | 5, _ => rfl
  | 6, _ => rfl
  | 7, _ => rfl
  | 8, _ => rfl
  | 9, _ => rfl
  | 10, _ => rfl
  | 11, _ => rfl
  | 12, _ => rfl
  | 13, _ => rfl
  | 14, _ => rfl
  | 15, _ => rfl
  | k + 16, h => exact absurd h (by omega)
theorem rkV_at (k : Nat) (h : k < 14) : rkV[k]? = some (.int .i64 (rkN.getD k 0)) := by
  match k, h with
  | 0, _ => rfl
  | 1, _ => rfl
  | 2, _ => rfl
  | 3, _ => rfl
  | 4, _ => rfl
  | 5, _ => rfl
  | 6, _ => rfl
  | 7, _ => rfl
  | 8, _ => rfl
  | 9, _ => rfl
  | 10, _ => rfl
  | 11, _ => rfl
  | 12, _ => rfl
  | 13, _ => rfl
  | k + 14, h => exact absurd h (by omega)
theorem opB_at : ∀ k ∈ List.range 14, 1 ≤ k → opB (sgN.getD k []) = ((k : Int), rkN.getD k 0) := by decide
theorem opAt_sg : ∀ j ∈ List.range 13, ∃ k ∈ List.range 14, 1 ≤ k ∧ (opAt j).1 = sgN.getD k [] := by decide
theorem signs_fn (w : World) : Calls Tryz.prog 53 #[] w fun e w' => e = .returned (.slice (some ⟨w.heap.size, 0, none⟩) 16 16) ∧ w.alloc (.cells sgV 9) = w' := by
  go_enter Tryz.func53, Tryz.ntmps53
  go_wp2_with fail
  go_ret
  exact ⟨rfl, rfl⟩
def RkR (w : World) (e : Ending) (w' : World) : Prop := ∃ b, e = .returned (.slice (some ⟨b, 0, none⟩) 14 14) ∧ (∀ k, k < 14 → w'.cell? ⟨b, k, none⟩ = some (.int .i64 (rkN.getD k 0))) ∧ Below w.heap.size w w'
theorem ranks_fn (w : World) : Calls Tryz.prog 54 #[] w (RkR w) := by
  go_enter Tryz.func54, Tryz.ntmps54
  go_wp2_with fail
  refine bodyPost_ret (v := .slice (some ⟨w.heap.size, 0, none⟩) 14 14) (by simp [results, Tryz.results54, go_sem]) rfl ⟨_, rfl, fun k hk => ?_, (Below.refl _ w).alloc (Nat.le_refl _) _⟩
  exact (cell_of_row _ _ k _ _ _ (heap_alloc_new w (.cells rkV 3))).trans (rkV_at k hk)

set_option maxRecDepth 100000 in
set_option maxHeartbeats 2000000 in
theorem refop_calls (s : Bytes) (w : World) :
    Calls Tryz.prog 17 #[.string (B s)] w fun e w' => e = .returned (.tuple #[.int .i64 (opB s).1, .int .i64 (opB s).2]) ∧ Below w.heap.size w w' := by
  go_enter Tryz.func17, Tryz.ntmps17
  go_wp2_with fail
  go_loopw [4] (fun i wr => ∃ k : Nat, 1 ≤ k ∧ k ≤ 14 ∧ i = .int .i64 k ∧ Hid (Below w.heap.size w wr) ∧ Hid (∀ j, 1 ≤ j → j < k → sgN.getD j [] ≠ s)) (fun i _ => 14 - (intOf i).toNat)
  case atStart => exact ⟨1, by omega, by omega, rfl, Lib.hid (Below.refl _ _), Lib.hid (fun j h1 hj => by omega)⟩
  case round =>
    obtain ⟨k, h1, hk, rfl, HB, H⟩ := hrel
    by_cases hlt : k ≤ 13
    · have c0 := (cell_of_row _ _ k _ _ _ (heap_alloc_new wr (.cells sgV 9))).trans (sgV_at k (by omega))
      have e0 : (k : Int) ≤ 13 := by omega
      have e3 : (k : Int) < 16 := by omega
      have e4 : (0 : Int) ≤ k := by omega
      have HBs := Lib.hid (HB.out.alloc HB.out.size (.cells sgV 9))
      by_cases hp : sgN.getD k [] = s
      · have HP := Lib.hid (show opB s = ((k : Int), rkN.getD k 0) from by rw [← hp]; exact opB_at k (List.mem_range.2 (by omega)) h1)
        have e5 : (k : Int) < 14 := by omega
        have hq : (sgN.getD k [] == s) = true := by rw [hp]; exact beq_self_eq_true _
        generalize sgN.getD k [] = sg at *
        clear hp H
        go_wp2_with fail
        refine (signs_fn _).mono ?_
        rintro e w1 ⟨rfl, rfl⟩
        go_wp2_with fail
        go_region_with (first | (go_at_call 54; refine (ranks_fn _).mono ?_; rintro e W' ⟨b, rfl, hc, hb⟩; have dd := hc k (by omega); have HB5 := Lib.hid (HBs.out.drew.trans (hb.mono HBs.out.size)); clear hc hb))
        all_goals (
          go_wp2_with fail
          go_ret2
          exact ⟨by rw [HP.out]; first | rfl | simp, HB5.out⟩)
      · have HP := Lib.hid hp
        have hq : (sgN.getD k [] == s) = false := beq_eq_false_iff_ne.2 hp
        have HK := Lib.hid (show ∀ j, 1 ≤ j → j < k + 1 → sgN.getD j [] ≠ s from fun j h1 hj => by
          rcases Nat.lt_or_ge j k with h2 | h2
          · exact H.out j h1 h2
          · obtain rfl : j = k := by omega
            exact HP.out)
        clear hp H HP
        generalize sgN.getD k [] = sg at *
        have hs : IntKind.i64.wrap ((k : Int) + 1) = (k : Int) + 1 := IntWalk.i64_in _ (by omega)
        go_wp2_with fail
        refine (signs_fn _).mono ?_
        rintro e w1 ⟨rfl, rfl⟩
        go_wp2_with fail
        trace_state
        go_roundw
        case rel => exact ⟨k + 1, by omega, by omega, by simp, HBs, HK⟩
        case measure => simp [intOf]; omega
    · obtain rfl : k = 14 := by omega
      have F := Lib.hid (op_no (s := s) fun j hj => by
        obtain ⟨q, hq, h1, h2⟩ := opAt_sg j (List.mem_range.2 hj)
        rw [h2]
        exact H.out q h1 (List.mem_range.1 hq))
      clear H
      go_wp2_with fail
      go_ret2
      exact ⟨by rw [F.out] <;> rfl, HB.out⟩
end Go.Proofs.YtoldhocdfkndbaaGreatDoor.E5
