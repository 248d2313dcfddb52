/-
  strings.Cut AT A SEPARATOR OF ONE BYTE, at every text (no bound).
-/
import Derived.Test.YtoldhocdfkndbaaGreatDoorLBase
import Derived.Test.YtoldhocdfkndbaaGreatDoorShelf
import Derived.Lib.CutLaws
import Derived.WalkKit
import Derived.RegionTactic
import Derived.ChangeAlike
import Derived.BigQuiet
import Derived.Deep.QuietTactic
import Derived.WalkSmall
import Derived.ShutString
import Derived.IntWalk
namespace Go.Proofs.YtoldhocdfkndbaaGreatDoor.L4
open Go Go.RowKit


theorem cutParts (s : ByteArray) (c : UInt8) :
    (Lib.indexByte s.data.toList c = -1 ∧ B (upTo c s.data.toList) = s ∧ B ((behind c s.data.toList).getD []) = ByteArray.empty ∧ (behind c s.data.toList).isSome = false) ∨
    ∃ i : Nat, Lib.indexByte s.data.toList c = i ∧ i + 1 ≤ s.size ∧ B (upTo c s.data.toList) = s.extract 0 i ∧ B ((behind c s.data.toList).getD []) = s.extract (i + 1) s.size ∧ (behind c s.data.toList).isSome = true := by
  rcases indexByte_cases s.data.toList c with ⟨h1, h2⟩ | ⟨h1, r, h2⟩
  · left
    refine ⟨h1, ?_, by rw [h2]; rfl, by rw [h2]; rfl⟩
    rw [behind_none h2]
  · right
    have hl := behind_length h2
    have hd := behind_drop h2
    rw [← Lib.size_eq] at hl
    refine ⟨(upTo c s.data.toList).length, h1, by omega, ?_, ?_, by rw [h2]; rfl⟩
    · rw [Lib.extract_eq]
      simp only [List.drop_zero, Nat.sub_zero]
      rw [← upTo_take]
    · rw [Lib.extract_eq, h2, ← hd]
      simp only [Option.getD_some]
      rw [List.take_of_length_le (by omega)]

theorem stringslite_cut1 (s : ByteArray) (c : UInt8) (w : World) (hs : s.size ≤ 9223372036854775807) :
    Calls Tryz.prog 168 #[.string s, .string ⟨#[c]⟩] w fun e w' => e = .returned (.tuple #[.string (B (upTo c s.data.toList)), .string (B ((behind c s.data.toList).getD [])), .bool (behind c s.data.toList).isSome]) ∧ ∃ n, w' = w.drewN n := by
  rcases cutParts s c with ⟨hix, e1, e2, e3⟩ | ⟨i, hix, hroom, e1, e2, e3⟩
  · rw [e1, e2, e3]
    go_enter Tryz.func168, Tryz.ntmps168
    go_wp2_with (go_at_call 196; refine (Tryz.stringslite_Index_one _ _ _).mono ?_; rintro e w' ⟨rfl, rfl⟩; rw [hix])
    go_ret3
    exact ⟨rfl, 0, rfl⟩
  · rw [e1, e2, e3]
    have c1 : (0 : Int) ≤ ↑i := by omega
    have c2 : (↑i : Int) ≤ ↑s.size := by omega
    have c3 : (0 : Int) ≤ ↑i + 1 := by omega
    have c4 : (↑i + 1 : Int) ≤ ↑s.size := by omega
    have c5 : IntKind.i64.wrap (↑i + 1) = ↑i + 1 := IntWalk.i64_in _ (by omega)
    go_enter Tryz.func168, Tryz.ntmps168
    go_wp2_with (go_at_call 196; refine (Tryz.stringslite_Index_one _ _ _).mono ?_; rintro e w' ⟨rfl, rfl⟩; rw [hix])
    go_region
    go_wp2
    go_ret3
    exact ⟨rfl, 1, rfl⟩

theorem strings_cut1 (s : ByteArray) (c : UInt8) (w : World) (hs : s.size ≤ 9223372036854775807) :
    Calls Tryz.prog 133 #[.string s, .string ⟨#[c]⟩] w fun e w' => e = .returned (.tuple #[.string (B (upTo c s.data.toList)), .string (B ((behind c s.data.toList).getD [])), .bool (behind c s.data.toList).isSome]) ∧ ∃ n, w' = w.drewN n := by
  go_enter Tryz.func133, Tryz.ntmps133
  go_wp2_with (go_at_call 168; refine (stringslite_cut1 _ _ _ hs).mono ?_; rintro e w' ⟨rfl, n, rfl⟩)
  go_ret3
  exact ⟨rfl, n, rfl⟩
end Go.Proofs.YtoldhocdfkndbaaGreatDoor.L4
