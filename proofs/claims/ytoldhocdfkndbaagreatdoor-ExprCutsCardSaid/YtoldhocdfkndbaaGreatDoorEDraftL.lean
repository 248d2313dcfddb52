/-
  How long the text of a draft's tree is. No program is named here.
-/
import Derived.Test.YtoldhocdfkndbaaGreatDoorEDraft
import Derived.Lib.ItoaLen
namespace Go.Proofs.YtoldhocdfkndbaaGreatDoor.E5
open Go Go.Proofs.YtoldhocdfkndbaaGreatDoor Go.Proofs.YtoldhocdfkndbaaGreatDoor.L4

theorem dec_len19 {n : Nat} (h : n ≤ 9223372036854775807) : (Lib.decDigits n).length ≤ 20 := by rw [Lib.decDigits_length]; exact Lib.nDigits_le20 n (by omega)
theorem nm5_len (n : Nat) : (nm5 n).length ≤ 9 := by unfold nm5; repeat (first | split | decide)
theorem leafT_len {n : Nat} {d : List Nat} (hn : n ≤ 255) (h : ∀ x ∈ d, x ≤ 255) : (leafT n d).1.tx.length ≤ 30 := by
  have hok := (leafT_ok hn h).1
  unfold leafT at hok ⊢
  split
  · rename_i h0
    rw [if_pos h0] at hok
    have := dec_len19 (n := _) hok
    show (Lib.decDigits _).length ≤ 30
    omega
  split
  · show (if _ then _ else _ : List UInt8).length ≤ 30
    split <;> decide
  split
  · have := nm5_len (n / 8 % 5)
    simp [Tr.tx]; omega
  · have := nm5_len (n / 8 % 5)
    simp [Tr.tx]; omega
theorem parB_le (c : Bool) (s : List UInt8) : (parB c s).length ≤ s.length + 2 := by
  cases c with
  | false => exact Nat.le_add_right _ _
  | true => simp [parB]
theorem mkT_len (k : Nat) : ∀ d : List Nat, (∀ x ∈ d, x ≤ 255) → (mkT k d).1.tx.length + 10 ≤ 40 * 2 ^ k := by
  induction k with
  | zero =>
    intro d h
    obtain ⟨h1, h2⟩ := dNext_all h
    have := leafT_len h1 h2
    show (leafT _ _).1.tx.length + 10 ≤ 40 * 2 ^ 0
    omega
  | succ k ih =>
    intro d h
    obtain ⟨h1, h2⟩ := dNext_all h
    obtain ⟨h3, h4⟩ := dNext_all h2
    have hp : 2 ^ (k + 1) = 2 * 2 ^ k := by rw [Nat.pow_succ]; omega
    have hq : 0 < 2 ^ k := Nat.two_pow_pos k
    rw [mkT]
    simp only
    split
    · have a1 := ih _ h4
      have b1 := ih _ (mkT_ok k _ h4).2.2
      have p1 := parB_le (mkT k (dNext (dNext d).2).2).1.comp (mkT k (dNext (dNext d).2).2).1.tx
      have p2 := parB_le (mkT k (mkT k (dNext (dNext d).2).2).2).1.comp (mkT k (mkT k (dNext (dNext d).2).2).2).1.tx
      have s1 := sign_len ((1 + (dNext (dNext d).2).1 % 13 : Nat) : Int)
      simp only [Tr.tx, List.length_append]
      omega
    split
    · have a1 := ih _ h4
      have p1 := parB_le (mkT k (dNext (dNext d).2).2).1.comp (mkT k (dNext (dNext d).2).2).1.tx
      have s1 := sign_len ((14 + (dNext (dNext d).2).1 % 2 : Nat) : Int)
      simp only [Tr.tx, List.length_append]
      omega
    split
    · have a1 := ih _ h2
      have n1 := nm5_len ((dNext d).1 / 8 % 5)
      simp only [Tr.tx, List.length_append, List.length_cons, List.length_nil]
      omega
    · have := leafT_len h1 h2
      omega
end Go.Proofs.YtoldhocdfkndbaaGreatDoor.E5
