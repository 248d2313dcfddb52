/-
  rewindref02: digits, Text: contracts.
-/
import Derived.Test.YtlhifbckmknijaaGreatDoorNRead
import Derived.Deep.QuietTactic
import Derived.WalkLawsBesides
namespace Go.Proofs.YtlhifbckmknijaaGreatDoor.N2
open Go Go.RowKit Go.Shelf Go.Sort

abbrev ten : ByteArray := ⟨#[48, 49, 50, 51, 52, 53, 54, 55, 56, 57]⟩
theorem ten_at : ∀ k : Fin 10, ten.extract k.val (k.val + 1) = ⟨#[UInt8.ofNat (48 + k.val)]⟩ := by decide +kernel
theorem dec_split (n : Nat) (h : ¬ n < 10) : Lib.decDigits n = Lib.decDigits (n / 10) ++ Lib.decDigits (n % 10) := by
  rw [Lib.decDigits, dif_neg h, Lib.decDigits_one (i := n % 10) (by omega)]
theorem dec_len (u : Nat) (h : u ≤ 18446744073709551615) : (Lib.decDigits u).length ≤ 20 := by
  rw [Lib.decDigits_length]
  exact nDigits_at 19 u (by simp only [Nat.reduceAdd, Nat.reducePow]; omega)

set_option maxRecDepth 100000 in
set_option maxHeartbeats 1000000 in
theorem digits_any (k : Nat) : ∀ (n : Nat) (w : World), n < k → n ≤ 18446744073709551615 →
    Calls Tryz.prog 203 #[.int .u64 n] w fun e w' => e = .returned (.string (B (Lib.decDigits n))) ∧ w = w' := by
  induction k with
  | zero => intro n w h; omega
  | succ k ih =>
    intro n w hk hn
    by_cases h : n < 10
    · rw [Lib.decDigits_one h]
      have e1 := ten_at ⟨n, h⟩
      simp only at e1
      have E1 := Lib.hid e1
      clear e1 ih
      go_enter Tryz.func203, Tryz.ntmps203
      go_wp2_with fail
      go_ret
      refine ⟨?_, rfl⟩
      show Ending.returned (.string (ten.extract n (n + 1))) = _
      rw [E1.out]
    · rw [dec_split n h]
      have h1 := fun w => ih (n / 10) w (by omega) (by omega)
      have h2 := fun w => ih (n % 10) w (by omega) (by omega)
      have l1 := dec_len (n / 10) (by omega)
      have l2 := dec_len (n % 10) (by omega)
      have e1 : ((n / 10 : Nat) : Int) = (n : Int) / 10 := by omega
      have e2 : ((n % 10 : Nat) : Int) = (n : Int) % 10 := by omega
      generalize Lib.decDigits (n / 10) = ta at *
      generalize Lib.decDigits (n % 10) = tb at *
      rw [e1] at h1
      rw [e2] at h2
      have H1 := Lib.hid h1
      have H2 := Lib.hid h2
      have m1 : ¬ 9223372036854775807 < ta.length + tb.length := by omega
      clear h1 h2 e1 e2 ih
      go_enter Tryz.func203, Tryz.ntmps203
      go_wp2_with fail
      refine (H1.out _).mono ?_
      rintro e w' ⟨rfl, rfl⟩
      go_wp2_with fail
      refine (H2.out _).mono ?_
      rintro e w' ⟨rfl, rfl⟩
      go_wp2_with fail
      go_ret
      refine ⟨?_, rfl⟩
      show Ending.returned (.string (B ta ++ B tb)) = _
      rw [B_append]
theorem digits_calls (n : Nat) (h1 : n ≤ 18446744073709551615) (w : World) :
    Calls Tryz.prog 203 #[.int .u64 n] w fun e w' => e = .returned (.string (B (Lib.decDigits n))) ∧ w = w' :=
  digits_any (n + 1) n w (by omega) h1

set_option maxRecDepth 100000 in
set_option maxHeartbeats 1000000 in
theorem text_ref (n : Int) (hn : okI n) (w : World) :
    Calls Tryz.prog 177 #[.int .i64 n] w fun e w' => e = .returned (.string (B (Lib.itoa n))) ∧ w = w' := by
  unfold okI at hn
  obtain ⟨hn1, hn2⟩ := hn
  rcases itoa_cases n with ⟨u, rfl, e⟩ | ⟨u, h0, rfl, e⟩
  · rw [e]
    have C := digits_calls u (by omega) w
    have HC := Lib.hid C
    clear C e
    go_enter Tryz.func177, Tryz.ntmps177
    go_wp2_with fail
    refine HC.out.mono ?_
    rintro e w' ⟨rfl, rfl⟩
    go_wp2_with fail
    go_ret
    exact ⟨rfl, rfl⟩
  · rw [e]
    have C : Calls Tryz.prog 203 #[.int .u64 (-(-(u : Int) + 1) + 1)] w fun e w' => e = .returned (.string (B (Lib.decDigits u))) ∧ w = w' := by
      rw [show -(-(u : Int) + 1) + 1 = (u : Int) by omega]
      exact digits_calls u (by omega) w
    have l1 := dec_len u (by omega)
    generalize Lib.decDigits u = tx at *
    have HC := Lib.hid C
    have m1 : ¬ 9223372036854775807 < 1 + tx.length := by omega
    clear C e
    go_enter Tryz.func177, Tryz.ntmps177
    go_wp2_with fail
    refine HC.out.mono ?_
    rintro e w' ⟨rfl, rfl⟩
    go_wp2_with fail
    go_ret
    refine ⟨?_, rfl⟩
    show Ending.returned (.string (B [45] ++ B tx)) = _
    rw [B_append]
    rfl

/-! ### Parse -/
/-- What the reference's loop makes of the rest of a text from byte i on; none: an error. -/
def rp (neg : Bool) : Nat → Int → Bytes → Option Int
  | _, n, [] => some n
  | i, n, c :: r => if i = 0 ∧ neg = true then rp neg (i + 1) n r
    else if 48 ≤ c.toNat ∧ c.toNat ≤ 57 ∧ i ≤ 20 then rp neg (i + 1) (if neg = true then wrap64 (wrap64 (10 * n) - ((c.toNat : Int) - 48)) else wrap64 (wrap64 (10 * n) + ((c.toNat : Int) - 48))) r else none
def isNeg : Bytes → Bool
  | c :: _ => (c.toNat : Int) == 45
  | [] => false
def refV (s : Bytes) : Option Int := rp (isNeg s) 0 0 s
theorem wrap_step2 (N d : Int) : wrap64 (wrap64 (10 * wrap64 N) - d) = wrap64 (10 * N - d) := by unfold wrap64; omega
theorem rp_add (l : Bytes) : ∀ (i N : Nat), (∀ c ∈ l, isDig c) → i + l.length ≤ 21 → rp false i (wrap64 N) l = some (wrap64 (numAt N l : Nat)) := by
  induction l with
  | nil => intro i N _ _; rfl
  | cons c l ih =>
    intro i N hd hl
    have hc := hd c (by simp)
    unfold isDig at hc
    simp only [List.length_cons] at hl
    rw [rp, if_neg (by simp), if_pos ⟨hc.1, hc.2, by omega⟩, if_neg (by decide), wrap_step, numAt_cons, show (10 * (N : Int) + ((c.toNat : Int) - 48)) = ((10 * N + (c.toNat - 48) : Nat) : Int) by omega]
    exact ih _ _ (fun x hx => hd x (by simp [hx])) (by omega)
theorem rp_sub (l : Bytes) : ∀ (i N : Nat), 0 < i → (∀ c ∈ l, isDig c) → i + l.length ≤ 21 → rp true i (wrap64 (-(N : Int))) l = some (wrap64 (-((numAt N l : Nat) : Int))) := by
  induction l with
  | nil => intro i N _ _ _; rfl
  | cons c l ih =>
    intro i N h0 hd hl
    have hc := hd c (by simp)
    unfold isDig at hc
    simp only [List.length_cons] at hl
    rw [rp, if_neg (by omega), if_pos ⟨hc.1, hc.2, by omega⟩, if_pos rfl, wrap_step2, numAt_cons, show (10 * -(N : Int) - ((c.toNat : Int) - 48)) = -((10 * N + (c.toNat - 48) : Nat) : Int) by omega]
    exact ih _ _ (by omega) (fun x hx => hd x (by simp [hx])) (by omega)
theorem rp_ok (neg : Bool) (l : Bytes) : ∀ i n v, okI n → rp neg i n l = some v → okI v := by
  induction l with
  | nil => intro i n v hn h; rw [rp] at h; cases h; exact hn
  | cons c l ih =>
    intro i n v hn h
    rw [rp] at h
    split at h
    · exact ih _ _ _ hn h
    · split at h
      · refine ih _ _ _ ?_ h
        split <;> exact wrap64_ok _
      · cases h
theorem isNeg_dec (u : Nat) : isNeg (Lib.decDigits u) = false := by
  cases h : Lib.decDigits u with
  | nil => rfl
  | cons c r =>
    have := decDigits_dig u c (by rw [h]; simp)
    unfold isDig at this
    simp only [isNeg, beq_eq_false_iff_ne]
    omega
theorem refV_itoa (n : Int) (h : okI n) : refV (Lib.itoa n) = some n := by
  unfold refV
  have h' := h
  unfold okI at h'
  rcases itoa_cases n with ⟨u, rfl, e⟩ | ⟨u, h0, rfl, e⟩
  · have hl := dec_length u (by omega)
    have hr := rp_add (Lib.decDigits u) 0 0 (decDigits_dig u) (by omega)
    rw [e, isNeg_dec]
    rw [show wrap64 ((0 : Nat) : Int) = 0 by decide +kernel, numAt_dec, wrap64_id h] at hr
    exact hr
  · have hl := dec_length u (by omega)
    have hr := rp_sub (Lib.decDigits u) 1 0 (by omega) (decDigits_dig u) (by omega)
    rw [e, show isNeg (45 :: Lib.decDigits u) = true from rfl, rp, if_pos ⟨rfl, rfl⟩]
    rw [show wrap64 (-((0 : Nat) : Int)) = 0 by decide +kernel, numAt_dec, wrap64_id h] at hr
    exact hr
theorem ref_none {s : Bytes} (h : refV s = none) : numParse s = none := numParse_none fun n hn e => by rw [e, refV_itoa n hn] at h; cases h
theorem ref_yes {s : Bytes} {v : Int} (h : refV s = some v) (e : Lib.itoa v = s) : numParse s = some v := by
  rw [← e]
  exact numParse_itoa (rp_ok _ _ _ _ _ (by unfold okI; omega) h)
theorem ref_no {s : Bytes} {v : Int} (h : refV s = some v) (e : Lib.itoa v ≠ s) : numParse s = none := numParse_none fun n hn e2 => by
  rw [e2, refV_itoa n hn] at h
  cases h
  exact e e2.symm
end Go.Proofs.YtlhifbckmknijaaGreatDoor.N2
