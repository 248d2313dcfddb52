/-
  PLAIN LAWS ON DECIMAL NUMERALS. No program is named here.
-/
import Derived.Lib.ItoaMem
import Derived.Lib.AtoiAllCases
import Derived.Test.YtkpbplmmphpokaaGreatDoorTxt
namespace Go.Proofs.YtkpbplmmphpokaaGreatDoor
open Go

def isDig (c : UInt8) : Prop := 48 ≤ c.toNat ∧ c.toNat ≤ 57

theorem digOf (k : Nat) (h : k < 10) : (UInt8.ofNat (48 + k)).toNat = 48 + k := by
  rw [UInt8.toNat_ofNat']; omega

theorem decDigits_dig (u : Nat) : ∀ c ∈ Lib.decDigits u, isDig c := by
  induction u using Nat.strongRecOn with
  | _ u ih =>
    intro c hc
    rw [Lib.decDigits] at hc
    by_cases h : u < 10
    · rw [dif_pos h, List.mem_singleton] at hc
      subst hc
      unfold isDig
      rw [digOf u h]; omega
    · rw [dif_neg h, List.mem_append, List.mem_singleton] at hc
      rcases hc with hc | hc
      · exact ih _ (by omega) c hc
      · subst hc
        unfold isDig
        rw [digOf _ (by omega)]; omega

theorem decDigits_ne (u : Nat) : Lib.decDigits u ≠ [] := by
  intro h
  have := congrArg List.length h
  rw [Lib.decDigits_length] at this
  have := Lib.nDigits_pos u
  simp at *
  omega

/-- What a row of digits adds to what stands ahead of it. -/
def numAt (acc : Nat) (l : Bytes) : Nat := l.foldl (fun a c => 10 * a + (c.toNat - 48)) acc

theorem numAt_cons (acc : Nat) (c : UInt8) (l : Bytes) : numAt acc (c :: l) = numAt (10 * acc + (c.toNat - 48)) l := by unfold numAt; rw [List.foldl_cons]
theorem numAt_one (acc : Nat) (c : UInt8) : numAt acc [c] = 10 * acc + (c.toNat - 48) := by rw [numAt_cons]; unfold numAt; rw [List.foldl_nil]
theorem numAt_append (acc : Nat) (a b : Bytes) : numAt acc (a ++ b) = numAt (numAt acc a) b := by simp [numAt]
theorem numAt_ge (l : Bytes) : ∀ acc, acc ≤ numAt acc l := by
  induction l with
  | nil => intro acc; exact Nat.le_refl _
  | cons c l ih => intro acc; rw [numAt_cons]; have := ih (10 * acc + (c.toNat - 48)); omega
theorem numAt_dec (u : Nat) : numAt 0 (Lib.decDigits u) = u := by
  induction u using Nat.strongRecOn with
  | _ u ih =>
    rw [Lib.decDigits]
    by_cases h : u < 10
    · rw [dif_pos h, numAt_one, digOf u h]
      omega
    · rw [dif_neg h, numAt_append, ih (u / 10) (by omega), numAt_one, digOf (u % 10) (by omega)]
      omega

theorem parse_ok (l : Bytes) : ∀ acc, (∀ c ∈ l, isDig c) → numAt acc l < 18446744073709551616 → Lib.parseUint10 acc l = .ok (numAt acc l) := by
  induction l with
  | nil => intro acc _ _; rfl
  | cons c l ih =>
    intro acc hd hn
    have hc : isDig c := hd c (by simp)
    unfold isDig at hc
    rw [numAt_cons] at hn ⊢
    have hge := numAt_ge l (10 * acc + (c.toNat - 48))
    have he : acc * 10 + (c.toNat - 48) = 10 * acc + (c.toNat - 48) := by omega
    unfold Lib.parseUint10
    rw [if_pos hc, if_neg (by omega), if_neg (by omega), he]
    exact ih _ (fun x hx => hd x (by simp [hx])) hn

theorem itoa_nn (n : Nat) : Lib.itoa (n : Int) = Lib.decDigits n := by
  unfold Lib.itoa
  rw [if_neg (by omega), Int.toNat_natCast]

/-- strconv.Atoi finds a number again from its numeral. -/
theorem atoi_itoa (n : Nat) (h : n ≤ 9223372036854775807) : Lib.atoiAll (Lib.itoa (n : Int)) = .ok (n : Int) := by
  rw [itoa_nn]
  have hdig := decDigits_dig n
  have hp := parse_ok (Lib.decDigits n) 0 hdig (by rw [numAt_dec]; omega)
  rw [numAt_dec] at hp
  cases hl : Lib.decDigits n with
  | nil => exact absurd hl (decDigits_ne n)
  | cons c r =>
    rw [hl] at hp hdig
    have hc : isDig c := hdig c (by simp)
    unfold isDig at hc
    unfold Lib.atoiAll
    simp only
    rw [if_neg (by omega)]
    unfold Lib.parseMag
    rw [if_neg (by simp), hp]
    simp only
    rw [if_neg (by omega), if_neg (by omega), if_neg (by omega)]

/-- The numeral has no colon. -/
theorem itoa_free (n : Nat) (c : UInt8) (h : ¬ isDig c) : c ∉ Lib.itoa (n : Int) := by
  rw [itoa_nn]
  exact fun hc => h (decDigits_dig n c hc)

/-- A reader of digits that gives 0 where there is none, or where the number does not fit into 63 bits. -/
def readN (acc : Nat) : Bytes → Nat
  | [] => acc
  | c :: r => if 48 ≤ c.toNat ∧ c.toNat ≤ 57 ∧ 10 * acc + (c.toNat - 48) ≤ 9223372036854775807 then readN (10 * acc + (c.toNat - 48)) r else 0

theorem readN_ok (l : Bytes) : ∀ acc, (∀ c ∈ l, isDig c) → numAt acc l ≤ 9223372036854775807 → readN acc l = numAt acc l := by
  induction l with
  | nil => intro acc _ _; rfl
  | cons c l ih =>
    intro acc hd hn
    have hc : isDig c := hd c (by simp)
    unfold isDig at hc
    rw [numAt_cons] at hn ⊢
    have hge := numAt_ge l (10 * acc + (c.toNat - 48))
    unfold readN
    rw [if_pos ⟨hc.1, hc.2, by omega⟩]
    exact ih _ (fun x hx => hd x (by simp [hx])) hn
theorem readN_itoa (n : Nat) (h : n ≤ 9223372036854775807) : readN 0 (Lib.itoa (n : Int)) = n := by
  rw [itoa_nn, readN_ok _ 0 (decDigits_dig n) (by rw [numAt_dec]; omega), numAt_dec]
theorem readN_le (l : Bytes) : ∀ acc, acc ≤ 9223372036854775807 → readN acc l ≤ 9223372036854775807 := by
  induction l with
  | nil => intro acc h; exact h
  | cons c l ih =>
    intro acc h
    unfold readN
    split
    · rename_i hc; exact ih _ hc.2.2
    · omega
end Go.Proofs.YtkpbplmmphpokaaGreatDoor
