/-
  NumberRefuses: what Parse and List refuse; the parts of the law's walk.
-/
import Derived.Test.YtfnobkcnopmfnaaDoorNTexts
namespace Go.Proofs.YtfnobkcnopmfnaaDoor.refuses
open Go Go.RowKit Go.Shelf Go.Sort Go.Proofs.YtfnobkcnopmfnaaDoor Go.Proofs.YtfnobkcnopmfnaaDoor.texts

/-! ### what is no number's string -/
theorem no_bad {s : Bytes} {c : UInt8} (hc : c ∈ s) (h1 : ¬ isDig c) (h2 : c ≠ 45) : numParse s = none :=
  numParse_none fun n _ e => itoa_avoids n c h1 h2 (e ▸ hc)
/-- A dash behind the first byte. -/
theorem no_dash {s : Bytes} {k : Nat} (hk : 0 < k) (hc : s[k]? = some 45) : numParse s = none :=
  numParse_none fun n _ e => by
    rw [e] at hc
    rcases itoa_bytes n k 45 hc with h | ⟨h, _⟩
    · unfold isDig at h; simp at h
    · omega
/-- No digit behind the dash. -/
theorem no_alone : numParse [] = none ∧ numParse [45] = none ∧ numParse [45, 48] = none := ⟨by decide +kernel, by decide +kernel, by decide +kernel⟩
theorem dec_zero (u : Nat) (r : Bytes) (h : Lib.decDigits u = 48 :: r) : r = [] := by
  by_cases hu : u < 10
  · rw [Lib.decDigits_one hu] at h
    exact (List.cons.inj h).2.symm
  · exfalso
    have hv := numAt_dec u
    have : ∀ v : Nat, 0 < v → ∀ r, Lib.decDigits v ≠ 48 :: r := by
      intro v
      induction v using Nat.strongRecOn with
      | _ v ih =>
        intro hv r hr
        rw [Lib.decDigits] at hr
        by_cases h10 : v < 10
        · rw [dif_pos h10] at hr
          have := congrArg List.head? hr
          simp only [List.head?_cons, Option.some.injEq] at this
          have h2 := congrArg UInt8.toNat this
          rw [digOf v h10] at h2
          have : (48 : UInt8).toNat = 48 := rfl
          omega
        · rw [dif_neg h10] at hr
          cases hp : Lib.decDigits (v / 10) with
          | nil => exact decDigits_ne _ hp
          | cons c t =>
            rw [hp, List.cons_append] at hr
            have : c = 48 := (List.cons.inj hr).1
            subst this
            exact ih (v / 10) (by omega) (by omega) t hp
    exact this u (by omega) r h
/-- A zero in front of a number's string. -/
theorem no_zero (n : Int) : numParse (48 :: Lib.itoa n) = none := numParse_none fun m _ e => by
  rcases itoa_cases m with ⟨u, rfl, h⟩ | ⟨u, h0, rfl, h⟩
  · rw [h] at e
    exact itoa_ne n (dec_zero u _ e.symm)
  · rw [h] at e
    cases e

/-- The strings that Parse must refuse, and those that List must. -/
def bads (S : Bytes) : List Bytes := [[], [45], 43 :: S, 48 :: S, 32 :: S, S ++ [32], S ++ [46], 45 :: 45 :: S, S ++ [45], S ++ [101, 49], [45, 48], S ++ [0]]
def badl (S : Bytes) : List Bytes := [[44], S ++ [44], 44 :: S, S ++ [44, 44] ++ S, S ++ [44, 32] ++ S, S ++ [59] ++ S]
theorem bads_no (n : Int) (k : Nat) (hk : k < 12) : numParse ((bads (Lib.itoa n)).getD k []) = none := by
  have hl : 0 < (Lib.itoa n).length := List.length_pos_iff.2 (itoa_ne n)
  obtain rfl | rfl | rfl | rfl | rfl | rfl | rfl | rfl | rfl | rfl | rfl | rfl : k = 0 ∨ k = 1 ∨ k = 2 ∨ k = 3 ∨ k = 4 ∨ k = 5 ∨ k = 6 ∨ k = 7 ∨ k = 8 ∨ k = 9 ∨ k = 10 ∨ k = 11 := by omega
  · exact no_alone.1
  · exact no_alone.2.1
  · exact no_bad (c := 43) (show (43 : UInt8) ∈ 43 :: Lib.itoa n by simp) (by unfold isDig; decide) (by decide)
  · exact no_zero n
  · exact no_bad (c := 32) (show (32 : UInt8) ∈ 32 :: Lib.itoa n by simp) (by unfold isDig; decide) (by decide)
  · exact no_bad (c := 32) (show (32 : UInt8) ∈ Lib.itoa n ++ [32] by simp) (by unfold isDig; decide) (by decide)
  · exact no_bad (c := 46) (show (46 : UInt8) ∈ Lib.itoa n ++ [46] by simp) (by unfold isDig; decide) (by decide)
  · exact no_dash (k := 1) (by omega) (show (45 :: 45 :: Lib.itoa n)[1]? = some 45 from rfl)
  · exact no_dash (k := (Lib.itoa n).length) hl (show (Lib.itoa n ++ [45])[(Lib.itoa n).length]? = some 45 by simp)
  · exact no_bad (c := 101) (show (101 : UInt8) ∈ Lib.itoa n ++ [101, 49] by simp) (by unfold isDig; decide) (by decide)
  · exact no_alone.2.2
  · exact no_bad (c := 0) (show (0 : UInt8) ∈ Lib.itoa n ++ [0] by simp) (by unfold isDig; decide) (by decide)
theorem list_none {s x : Bytes} (h : s ≠ []) (hx : x ∈ parts 44 s) (hn : numParse x = none) : numList s = none := by
  unfold numList
  rw [if_neg h, allNums_none hx hn]
theorem badl_no (n : Int) (k : Nat) (hk : k < 6) : numList ((badl (Lib.itoa n)).getD k []) = none := by
  have hc := comma_free n
  obtain rfl | rfl | rfl | rfl | rfl | rfl : k = 0 ∨ k = 1 ∨ k = 2 ∨ k = 3 ∨ k = 4 ∨ k = 5 := by omega
  · show numList [44] = none
    decide +kernel
  · refine list_none (s := Lib.itoa n ++ [44]) (x := []) (by simp) ?_ no_alone.1
    rw [parts_of hc]
    simp [parts]
  · refine list_none (s := 44 :: Lib.itoa n) (x := []) (by simp) ?_ no_alone.1
    rw [parts, if_pos rfl]
    simp
  · refine list_none (s := Lib.itoa n ++ [44, 44] ++ Lib.itoa n) (x := []) (by simp) ?_ no_alone.1
    rw [List.append_assoc]
    show [] ∈ parts 44 (Lib.itoa n ++ 44 :: (44 :: Lib.itoa n))
    rw [parts_of hc, parts, if_pos rfl]
    simp
  · refine list_none (s := Lib.itoa n ++ [44, 32] ++ Lib.itoa n) (x := 32 :: Lib.itoa n) (by simp) ?_ (no_bad (c := 32) (by simp) (by unfold isDig; decide) (by decide))
    rw [List.append_assoc]
    show _ ∈ parts 44 (Lib.itoa n ++ 44 :: (32 :: Lib.itoa n))
    rw [parts_of hc, parts_self (by simp only [List.mem_cons, not_or]; exact ⟨by decide, hc⟩)]
    simp
  · refine list_none (s := Lib.itoa n ++ [59] ++ Lib.itoa n) (x := Lib.itoa n ++ [59] ++ Lib.itoa n) (by simp) ?_ (no_bad (c := 59) (by simp) (by unfold isDig; decide) (by decide))
    rw [parts_self]
    · simp
    · simp only [List.mem_append, List.mem_singleton, not_or]
      exact ⟨⟨hc, by decide⟩, hc⟩
/-- A text that ends in no digit and no dash, in front of a number's string. -/
theorem front_no (f : Bytes) (c : UInt8) (S : Bytes) (h1 : ¬ isDig c) (h2 : c ≠ 45) : numParse (f ++ [c] ++ S) = none := no_bad (c := c) (by simp) h1 h2
end Go.Proofs.YtfnobkcnopmfnaaDoor.refuses
