/-
  number.Parse: its contract.
-/
import Derived.Test.YtipepljmfgjbpaaGreatDoorNRead
namespace Go.Proofs.YtipepljmfgjbpaaGreatDoor.N2
open Go Go.RowKit Go.Sort Go.Shelf

set_option maxRecDepth 100000 in
set_option maxHeartbeats 2000000 in
theorem parse_calls (s : ByteArray) (w : World) (hG : Glob w) :
    Calls Tryz.prog 91 #[.string s] w fun e w' => e = .returned (.tuple #[encN (numParse s.data.toList), encE 7 (numParse s.data.toList)]) ∧ Below w.heap.size w w' := by
  have hC := fun W => Tryz.strings_CutPrefix s ⟨#[45]⟩ W
  have hT := fun W h => text_calls (parseV s) (parseV_ok s) W h
  have hV : (Lib.hasPrefix s.data.toList [45] = true ∧ parseV s = wrap64 (-(readV (B (Lib.trimPrefix s.data.toList [45]))))) ∨ (Lib.hasPrefix s.data.toList [45] = false ∧ parseV s = readV (B (Lib.trimPrefix s.data.toList [45]))) := by
    unfold parseV
    by_cases h : Lib.hasPrefix s.data.toList [45] = true
    · rw [h]; exact .inl ⟨rfl, if_pos rfl⟩
    · have h : Lib.hasPrefix s.data.toList [45] = false := by simpa using h
      rw [h]; exact .inr ⟨rfl, if_neg (by decide)⟩
  have hR := fun W => read_calls (B (Lib.trimPrefix s.data.toList [45])) W
  generalize readV (B (Lib.trimPrefix s.data.toList [45])) = v at *
  generalize Lib.trimPrefix s.data.toList [45] = t at *
  generalize Lib.hasPrefix s.data.toList [45] = below at *
  have HC := Lib.hid hC
  have HR := Lib.hid hR
  have HT := Lib.hid hT
  have HG := Lib.hid hG
  clear hC hR hT hG
  by_cases hs : Lib.itoa (parseV s) = s.data.toList
  · rw [parse_yes s hs]
    have htb : (Lib.itoa (parseV s) == s.toList) = true := by rw [Lib.toList_data]; exact beq_iff_eq.2 hs
    generalize parseV s = n at *
    generalize Lib.itoa n = tx at *
    have HTB := Lib.hid htb
    clear htb hs
    rcases hV with ⟨rfl, rfl⟩ | ⟨rfl, rfl⟩
    · go_enter Tryz.func91, Tryz.ntmps91
      go_wp2_with fail
      refine (HC.out _).mono ?_
      rintro e w' ⟨rfl, rfl⟩
      go_wp2_with fail
      refine (HR.out _).mono ?_
      rintro e w1 ⟨rfl, hb⟩
      have B1 := Lib.hid hb
      clear hb HR HC
      go_wp2_with fail
      refine (negate_calls _ _).mono ?_
      rintro e w' ⟨rfl, rfl⟩
      go_wp2_with fail
      refine (HT.out _ (HG.out.below B1.out)).mono ?_
      rintro e w2 ⟨rfl, hb⟩
      have B2 := Lib.hid (after B1.out hb)
      clear hb B1 HT HG
      have htb := HTB.out
      go_wp2_with fail
      go_ret2
      exact ⟨rfl, B2.out⟩
    · go_enter Tryz.func91, Tryz.ntmps91
      go_wp2_with fail
      refine (HC.out _).mono ?_
      rintro e w' ⟨rfl, rfl⟩
      go_wp2_with fail
      refine (HR.out _).mono ?_
      rintro e w1 ⟨rfl, hb⟩
      have B1 := Lib.hid hb
      clear hb HR HC
      go_wp2_with fail
      refine (HT.out _ (HG.out.below B1.out)).mono ?_
      rintro e w2 ⟨rfl, hb⟩
      have B2 := Lib.hid (after B1.out hb)
      clear hb B1 HT HG
      have htb := HTB.out
      go_wp2_with fail
      go_ret2
      exact ⟨rfl, B2.out⟩
  · rw [parse_no s hs]
    have htb : (Lib.itoa (parseV s) == s.toList) = false := by rw [Lib.toList_data]; exact beq_eq_false_iff_ne.2 hs
    generalize parseV s = n at *
    generalize Lib.itoa n = tx at *
    have HTB := Lib.hid htb
    clear htb hs
    rcases hV with ⟨rfl, rfl⟩ | ⟨rfl, rfl⟩
    · go_enter Tryz.func91, Tryz.ntmps91
      go_wp2_with fail
      refine (HC.out _).mono ?_
      rintro e w' ⟨rfl, rfl⟩
      go_wp2_with fail
      refine (HR.out _).mono ?_
      rintro e w1 ⟨rfl, hb⟩
      have B1 := Lib.hid hb
      clear hb HR HC
      go_wp2_with fail
      refine (negate_calls _ _).mono ?_
      rintro e w' ⟨rfl, rfl⟩
      go_wp2_with fail
      refine (HT.out _ (HG.out.below B1.out)).mono ?_
      rintro e w2 ⟨rfl, hb⟩
      have B2 := Lib.hid (after B1.out hb)
      clear hb B1 HT HG
      have htb := HTB.out
      go_wp2_with fail
      go_ret2
      exact ⟨rfl, B2.out⟩
    · go_enter Tryz.func91, Tryz.ntmps91
      go_wp2_with fail
      refine (HC.out _).mono ?_
      rintro e w' ⟨rfl, rfl⟩
      go_wp2_with fail
      refine (HR.out _).mono ?_
      rintro e w1 ⟨rfl, hb⟩
      have B1 := Lib.hid hb
      clear hb HR HC
      go_wp2_with fail
      refine (HT.out _ (HG.out.below B1.out)).mono ?_
      rintro e w2 ⟨rfl, hb⟩
      have B2 := Lib.hid (after B1.out hb)
      clear hb B1 HT HG
      have htb := HTB.out
      go_wp2_with fail
      go_ret2
      exact ⟨rfl, B2.out⟩
end Go.Proofs.YtipepljmfgjbpaaGreatDoor.N2
