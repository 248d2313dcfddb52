/-
  Piece.gap, decimal: contracts.
-/
import Derived.Test.YtkbmominplkdkaaDoorLScan
import Derived.Test.YtkbmominplkdkaaDoorLPiece
import Derived.Laws.BytesArg
namespace Go.Proofs.YtkbmominplkdkaaDoor
open Go Go.RowKit Go.Sort

theorem B_app (a b : Bytes) : B a ++ B b = B (a ++ b) := by
  apply ByteArray.ext
  rw [ByteArray.data_append]
  simp
def pcV (p : Pc) : Value := .agg #[.int .u8 (p.k : Int), .int .u8 (p.n : Int), .int .u8 (p.g : Int), .int .u64 (p.b : Int)]
set_option maxRecDepth 100000 in
theorem gap_calls (p : Pc) (w : World) :
    Calls Tryd.prog 16 #[pcV p] w fun e w' => e = .returned (.string (B (gapP p))) ∧ Below w.heap.size w w' := by
  obtain ⟨k, n, g, b⟩ := p
  unfold pcV gapP
  simp only
  rcases (show g % 6 = 0 ∨ g % 6 = 1 ∨ g % 6 = 2 ∨ g % 6 = 3 ∨ g % 6 = 4 ∨ g % 6 = 5 from by omega) with h | h | h | h | h | h
  · have e : (g : Int) % 6 = 0 := by omega
    have e2 : (g : Int).tmod 6 = 0 := by rw [Int.tmod_eq_emod_of_nonneg (by omega)]; exact e
    rw [h]
    go_enter Tryd.func16, Tryd.ntmps16
    go_wp2_with fail
    go_ret
    exact ⟨rfl, ((Below.refl _ w).alloc (Nat.le_refl _) _).alloc (by simp) _⟩
  · have e : (g : Int) % 6 = 1 := by omega
    have e2 : (g : Int).tmod 6 = 1 := by rw [Int.tmod_eq_emod_of_nonneg (by omega)]; exact e
    rw [h]
    go_enter Tryd.func16, Tryd.ntmps16
    go_wp2_with fail
    go_ret
    exact ⟨rfl, ((Below.refl _ w).alloc (Nat.le_refl _) _).alloc (by simp) _⟩
  · have e : (g : Int) % 6 = 2 := by omega
    have e2 : (g : Int).tmod 6 = 2 := by rw [Int.tmod_eq_emod_of_nonneg (by omega)]; exact e
    rw [h]
    go_enter Tryd.func16, Tryd.ntmps16
    go_wp2_with fail
    go_ret
    exact ⟨rfl, ((Below.refl _ w).alloc (Nat.le_refl _) _).alloc (by simp) _⟩
  · have e : (g : Int) % 6 = 3 := by omega
    have e2 : (g : Int).tmod 6 = 3 := by rw [Int.tmod_eq_emod_of_nonneg (by omega)]; exact e
    rw [h]
    go_enter Tryd.func16, Tryd.ntmps16
    go_wp2_with fail
    go_ret
    exact ⟨rfl, ((Below.refl _ w).alloc (Nat.le_refl _) _).alloc (by simp) _⟩
  · have e : (g : Int) % 6 = 4 := by omega
    have e2 : (g : Int).tmod 6 = 4 := by rw [Int.tmod_eq_emod_of_nonneg (by omega)]; exact e
    rw [h]
    go_enter Tryd.func16, Tryd.ntmps16
    go_wp2_with fail
    go_ret
    exact ⟨rfl, ((Below.refl _ w).alloc (Nat.le_refl _) _).alloc (by simp) _⟩
  · have e : (g : Int) % 6 = 5 := by omega
    have e2 : (g : Int).tmod 6 = 5 := by rw [Int.tmod_eq_emod_of_nonneg (by omega)]; exact e
    rw [h]
    go_enter Tryd.func16, Tryd.ntmps16
    go_wp2_with fail
    go_ret
    exact ⟨rfl, ((Below.refl _ w).alloc (Nat.le_refl _) _).alloc (by simp) _⟩

theorem conv_one (w : World) (g : Nat) (x : UInt8) (h : w.cell? ⟨g, 0, none⟩ = some (.int .u8 x.toNat)) :
    (convert 60 9 (.slice (some ⟨g, 0, none⟩) 1 1)).run Tryd.prog w = .ok (.string ⟨#[x]⟩) w := by
  rw [run_convert_bytes_arg (w := w) (P := Tryd.prog) 60 5 Tryd.underlying60 Tryd.underlying5 g 0 1 1 [(x.toNat : Int)] rfl (fun i hi => by rw [show i = 0 by omega]; exact h) 9 Tryd.underlying9]
  simp [strOfNums]
set_option maxRecDepth 100000 in
theorem decimal_calls (N : Nat) (hN : N < 18446744073709551616) (w : World) :
    Calls Tryd.prog 28 #[.int .u64 (N : Int)] w fun e w' => e = .returned (.string (B (Lib.decDigits N))) ∧ Below w.heap.size w w' := by
  go_enter Tryd.func28, Tryd.ntmps28
  go_wp2_with fail
  go_loopw [0, 3] (fun x v wr => ∃ (m : Nat) (t : Bytes), m < 18446744073709551616 ∧ t.length ≤ 20 ∧ x = .int .u64 m ∧ v = .string (B t) ∧ Hid (Lib.decDigits N = Lib.decDigits m ++ t) ∧ Hid (Below w.heap.size w wr)) (fun x _ _ => (intOf x).toNat)
  case atStart => exact ⟨N, [], hN, by simp, rfl, rfl, Lib.hid (by simp), Lib.hid (Below.refl _ _)⟩
  case round =>
    obtain ⟨m, t, hm, htl, rfl, rfl, HD, HB⟩ := hrel
    obtain ⟨x, hx⟩ : ∃ x : UInt8, x = UInt8.ofNat (48 + m % 10) := ⟨_, rfl⟩
    have hxn : x.toNat = 48 + m % 10 := by rw [hx]; exact digOf _ (Nat.mod_lt _ (by decide))
    have hcv := conv_one (wr.alloc (.cells #[.int .u8 (48 + (m : Int) % 10)] 5)) wr.heap.size x (by
      rw [cell_of_row _ _ 0 _ _ _ (heap_alloc_new wr _)]
      show some (Value.int .u8 (48 + (m : Int) % 10)) = _
      rw [hxn]; push_cast; rfl)
    have hlen := dec_len20 N hN
    have hD := HD.out
    by_cases hlt : m < 10
    · have e1 : ((m : Int) / 10 == 0) = true := by rw [beq_iff_eq]; omega
      have HX := Lib.hid (show Lib.decDigits N = x :: t by
        rw [hD, Lib.decDigits, dif_pos hlt, hx, Nat.mod_eq_of_lt hlt]; rfl)
      have HB2 := Lib.hid (HB.out.alloc HB.out.size (.cells #[.int .u8 (48 + (m : Int) % 10)] 5))
      clear hD HD hlen hx hxn
      go_wp2_with fail
      go_ret
      refine ⟨?_, HB2.out⟩
      rw [HX.out]
      show Ending.returned (Value.string (B [x] ++ B t)) = _
      rw [B_app]; rfl
    · have e1 : ((m : Int) / 10 == 0) = false := by rw [beq_eq_false_iff_ne]; omega
      have hd := dec_big (n := m) (by omega)
      rw [← hx] at hd
      have HX := Lib.hid (show Lib.decDigits N = Lib.decDigits (m / 10) ++ (x :: t) by rw [hD, hd]; simp)
      have htl2 : t.length + 1 ≤ 20 := by
        rw [hD, hd] at hlen
        simp at hlen
        omega
      have HB2 := Lib.hid (HB.out.alloc HB.out.size (.cells #[.int .u8 (48 + (m : Int) % 10)] 5))
      clear hD HD hlen hx hxn hd
      go_wp2_with fail
      go_roundw
      case rel =>
        refine ⟨m / 10, x :: t, by omega, by simpa using htl2, by push_cast; rfl, ?_, HX, HB2⟩
        show Value.string (B [x] ++ B t) = _
        rw [B_app]; rfl
      case measure => simp [intOf]; omega
end Go.Proofs.YtkbmominplkdkaaDoor
