/-
  rewindref02: digits, Text: contracts.
  rewindref02.Parse: its contract.
  The reference's depth, Depth, Expr: contracts.
  The reference's exprs, SameExpr: contracts.
  The document's own reading of expressions: its small functions: contracts.
  The document's own reading of expressions: made, length, index: contracts. Written by gen5_ref.py.
  The document's own reading of expressions: index with its expression: contracts. Written by gen5_ref.py.
  The document's own reading of expressions: nested: contracts. Written by gen5_ref.py.
  The document's own reading of expressions: operand: contracts. Written by gen5_ref.py.
  The document's own reading of expressions: binary; all parts by induction; Parse: contracts.
  The document's own reading of expressions: all parts by induction; Parse: contracts.
  The document's own reading of lists of expressions: List: contract.
  The law's refs; a clone of tokens that is equal to them: contracts. Written by gen5_ref9.py.
-/
import Derived.Test.YtoldhocdfkndbaaGreatDoorNRead
import Derived.Deep.QuietTactic
import Derived.WalkLawsBesides
import Derived.Outline
import Derived.Test.YtoldhocdfkndbaaGreatDoorSDepth
import Derived.Test.YtoldhocdfkndbaaGreatDoorSEq
import Derived.Lib.QuietBelow
import Derived.BigQuiet
import Derived.Test.YtoldhocdfkndbaaGreatDoorEWk
import Derived.Test.YtoldhocdfkndbaaGreatDoorESg
import Derived.BigRegion
import Derived.Deep.RegionWith
import Derived.Deep.RegionHeld3
import Derived.Test.YtoldhocdfkndbaaGreatDoorERow
import Derived.Lib.AppendZeros
import Derived.Test.YtoldhocdfkndbaaGreatDoorSGrow
namespace Go.Proofs.YtoldhocdfkndbaaGreatDoor.N2
open Go Go.RowKit Go.Shelf Go.Sort

abbrev ten : ByteArray := ⟨#[48, 49, 50, 51, 52, 53, 54, 55, 56, 57]⟩
theorem ten_at : ∀ k : Fin 10, ten.extract k.val (k.val + 1) = ⟨#[UInt8.ofNat (48 + k.val)]⟩ := by decide +kernel
theorem dec_split (n : Nat) (h : ¬ n < 10) : Lib.decDigits n = Lib.decDigits (n / 10) ++ Lib.decDigits (n % 10) := by
  rw [Lib.decDigits, dif_neg h, Lib.decDigits_one (i := n % 10) (by omega)]
theorem dec_len (u : Nat) (h : u ≤ 18446744073709551615) : (Lib.decDigits u).length ≤ 20 := by
  rw [Lib.decDigits_length]
  exact nDigits_at 19 u (by simp only [Nat.reduceAdd, Nat.reducePow]; omega)

set_option maxRecDepth 100000 in
set_option maxHeartbeats 1000000 in
theorem digits_any (k : Nat) : ∀ (n : Nat) (w : World), n < k → n ≤ 18446744073709551615 →
    Calls Tryz.prog 240 #[.int .u64 n] w fun e w' => e = .returned (.string (B (Lib.decDigits n))) ∧ w = w' := by
  induction k with
  | zero => intro n w h; omega
  | succ k ih =>
    intro n w hk hn
    by_cases h : n < 10
    · rw [Lib.decDigits_one h]
      have e1 := ten_at ⟨n, h⟩
      simp only at e1
      have E1 := Lib.hid e1
      clear e1 ih
      go_enter Tryz.func240, Tryz.ntmps240
      go_wp2_with fail
      go_ret
      refine ⟨?_, rfl⟩
      show Ending.returned (.string (ten.extract n (n + 1))) = _
      rw [E1.out]
    · rw [dec_split n h]
      have h1 := fun w => ih (n / 10) w (by omega) (by omega)
      have h2 := fun w => ih (n % 10) w (by omega) (by omega)
      have l1 := dec_len (n / 10) (by omega)
      have l2 := dec_len (n % 10) (by omega)
      have e1 : ((n / 10 : Nat) : Int) = (n : Int) / 10 := by omega
      have e2 : ((n % 10 : Nat) : Int) = (n : Int) % 10 := by omega
      generalize Lib.decDigits (n / 10) = ta at *
      generalize Lib.decDigits (n % 10) = tb at *
      rw [e1] at h1
      rw [e2] at h2
      have H1 := Lib.hid h1
      have H2 := Lib.hid h2
      have m1 : ¬ 9223372036854775807 < ta.length + tb.length := by omega
      clear h1 h2 e1 e2 ih
      go_enter Tryz.func240, Tryz.ntmps240
      go_wp2_with fail
      refine (H1.out _).mono ?_
      rintro e w' ⟨rfl, rfl⟩
      go_wp2_with fail
      refine (H2.out _).mono ?_
      rintro e w' ⟨rfl, rfl⟩
      go_wp2_with fail
      go_ret
      refine ⟨?_, rfl⟩
      show Ending.returned (.string (B ta ++ B tb)) = _
      rw [B_append]
theorem digits_calls (n : Nat) (h1 : n ≤ 18446744073709551615) (w : World) :
    Calls Tryz.prog 240 #[.int .u64 n] w fun e w' => e = .returned (.string (B (Lib.decDigits n))) ∧ w = w' :=
  digits_any (n + 1) n w (by omega) h1

set_option maxRecDepth 100000 in
set_option maxHeartbeats 1000000 in
theorem text_ref (n : Int) (hn : okI n) (w : World) :
    Calls Tryz.prog 238 #[.int .i64 n] w fun e w' => e = .returned (.string (B (Lib.itoa n))) ∧ w = w' := by
  unfold okI at hn
  obtain ⟨hn1, hn2⟩ := hn
  rcases itoa_cases n with ⟨u, rfl, e⟩ | ⟨u, h0, rfl, e⟩
  · rw [e]
    have C := digits_calls u (by omega) w
    have HC := Lib.hid C
    clear C e
    go_enter Tryz.func238, Tryz.ntmps238
    go_wp2_with fail
    refine HC.out.mono ?_
    rintro e w' ⟨rfl, rfl⟩
    go_wp2_with fail
    go_ret
    exact ⟨rfl, rfl⟩
  · rw [e]
    have C : Calls Tryz.prog 240 #[.int .u64 (-(-(u : Int) + 1) + 1)] w fun e w' => e = .returned (.string (B (Lib.decDigits u))) ∧ w = w' := by
      rw [show -(-(u : Int) + 1) + 1 = (u : Int) by omega]
      exact digits_calls u (by omega) w
    have l1 := dec_len u (by omega)
    generalize Lib.decDigits u = tx at *
    have HC := Lib.hid C
    have m1 : ¬ 9223372036854775807 < 1 + tx.length := by omega
    clear C e
    go_enter Tryz.func238, Tryz.ntmps238
    go_wp2_with fail
    refine HC.out.mono ?_
    rintro e w' ⟨rfl, rfl⟩
    go_wp2_with fail
    go_ret
    refine ⟨?_, rfl⟩
    show Ending.returned (.string (B [45] ++ B tx)) = _
    rw [B_append]
    rfl

/-! ### Parse -/
/-- What the reference's loop makes of the rest of a text from byte i on; none: an error. -/
def rp (neg : Bool) : Nat → Int → Bytes → Option Int
  | _, n, [] => some n
  | i, n, c :: r => if i = 0 ∧ neg = true then rp neg (i + 1) n r
    else if 48 ≤ c.toNat ∧ c.toNat ≤ 57 ∧ i ≤ 20 then rp neg (i + 1) (if neg = true then wrap64 (wrap64 (10 * n) - ((c.toNat : Int) - 48)) else wrap64 (wrap64 (10 * n) + ((c.toNat : Int) - 48))) r else none
def isNeg : Bytes → Bool
  | c :: _ => (c.toNat : Int) == 45
  | [] => false
def refV (s : Bytes) : Option Int := rp (isNeg s) 0 0 s
theorem wrap_step2 (N d : Int) : wrap64 (wrap64 (10 * wrap64 N) - d) = wrap64 (10 * N - d) := by unfold wrap64; omega
theorem rp_add (l : Bytes) : ∀ (i N : Nat), (∀ c ∈ l, isDig c) → i + l.length ≤ 21 → rp false i (wrap64 N) l = some (wrap64 (numAt N l : Nat)) := by
  induction l with
  | nil => intro i N _ _; rfl
  | cons c l ih =>
    intro i N hd hl
    have hc := hd c (by simp)
    unfold isDig at hc
    simp only [List.length_cons] at hl
    rw [rp, if_neg (by simp), if_pos ⟨hc.1, hc.2, by omega⟩, if_neg (by decide), wrap_step, numAt_cons, show (10 * (N : Int) + ((c.toNat : Int) - 48)) = ((10 * N + (c.toNat - 48) : Nat) : Int) by omega]
    exact ih _ _ (fun x hx => hd x (by simp [hx])) (by omega)
theorem rp_sub (l : Bytes) : ∀ (i N : Nat), 0 < i → (∀ c ∈ l, isDig c) → i + l.length ≤ 21 → rp true i (wrap64 (-(N : Int))) l = some (wrap64 (-((numAt N l : Nat) : Int))) := by
  induction l with
  | nil => intro i N _ _ _; rfl
  | cons c l ih =>
    intro i N h0 hd hl
    have hc := hd c (by simp)
    unfold isDig at hc
    simp only [List.length_cons] at hl
    rw [rp, if_neg (by omega), if_pos ⟨hc.1, hc.2, by omega⟩, if_pos rfl, wrap_step2, numAt_cons, show (10 * -(N : Int) - ((c.toNat : Int) - 48)) = -((10 * N + (c.toNat - 48) : Nat) : Int) by omega]
    exact ih _ _ (by omega) (fun x hx => hd x (by simp [hx])) (by omega)
theorem rp_ok (neg : Bool) (l : Bytes) : ∀ i n v, okI n → rp neg i n l = some v → okI v := by
  induction l with
  | nil => intro i n v hn h; rw [rp] at h; cases h; exact hn
  | cons c l ih =>
    intro i n v hn h
    rw [rp] at h
    split at h
    · exact ih _ _ _ hn h
    · split at h
      · refine ih _ _ _ ?_ h
        split <;> exact wrap64_ok _
      · cases h
theorem isNeg_dec (u : Nat) : isNeg (Lib.decDigits u) = false := by
  cases h : Lib.decDigits u with
  | nil => rfl
  | cons c r =>
    have := decDigits_dig u c (by rw [h]; simp)
    unfold isDig at this
    simp only [isNeg, beq_eq_false_iff_ne]
    omega
theorem refV_itoa (n : Int) (h : okI n) : refV (Lib.itoa n) = some n := by
  unfold refV
  have h' := h
  unfold okI at h'
  rcases itoa_cases n with ⟨u, rfl, e⟩ | ⟨u, h0, rfl, e⟩
  · have hl := dec_length u (by omega)
    have hr := rp_add (Lib.decDigits u) 0 0 (decDigits_dig u) (by omega)
    rw [e, isNeg_dec]
    rw [show wrap64 ((0 : Nat) : Int) = 0 by decide +kernel, numAt_dec, wrap64_id h] at hr
    exact hr
  · have hl := dec_length u (by omega)
    have hr := rp_sub (Lib.decDigits u) 1 0 (by omega) (decDigits_dig u) (by omega)
    rw [e, show isNeg (45 :: Lib.decDigits u) = true from rfl, rp, if_pos ⟨rfl, rfl⟩]
    rw [show wrap64 (-((0 : Nat) : Int)) = 0 by decide +kernel, numAt_dec, wrap64_id h] at hr
    exact hr
theorem ref_none {s : Bytes} (h : refV s = none) : numParse s = none := numParse_none fun n hn e => by rw [e, refV_itoa n hn] at h; cases h
theorem ref_yes {s : Bytes} {v : Int} (h : refV s = some v) (e : Lib.itoa v = s) : numParse s = some v := by
  rw [← e]
  exact numParse_itoa (rp_ok _ _ _ _ _ (by unfold okI; omega) h)
theorem ref_no {s : Bytes} {v : Int} (h : refV s = some v) (e : Lib.itoa v ≠ s) : numParse s = none := numParse_none fun n hn e2 => by
  rw [e2, refV_itoa n hn] at h
  cases h
  exact e e2.symm
end Go.Proofs.YtoldhocdfkndbaaGreatDoor.N2

namespace Go.Proofs.YtoldhocdfkndbaaGreatDoor.N2
open Go Go.RowKit Go.Shelf Go.Sort

theorem isNeg_pos (s : ByteArray) (h : 0 < s.size) : isNeg s.data.toList = ((s[0].toNat : Int) == 45) := by
  have hd : s.data.toList.drop 0 = s[0] :: s.data.toList.drop 1 := by
    rw [List.drop_eq_getElem_cons (by rw [← Lib.size_eq]; exact h)]; rfl
  rw [List.drop_zero] at hd
  rw [hd]
  rfl

set_option maxRecDepth 100000 in
set_option maxHeartbeats 4000000 in
theorem parse_ref (s : ByteArray) (hs : s.size ≤ 9223372036854775807) (w : World) :
    Calls Tryz.prog 224 #[.string s] w fun e w' => e = .returned (.tuple #[encN (numParse s.data.toList), encE 7 (numParse s.data.toList)]) ∧ w = w' := by
  have hz : ∀ h : 0 < s.size, isNeg s.data.toList = ((s[0].toNat : Int) == 45) := isNeg_pos s
  have hrp : rp (isNeg s.data.toList) 0 0 s.data.toList = refV s.data.toList := rfl
  obtain ⟨neg, hneg⟩ : ∃ b, isNeg s.data.toList = b := ⟨_, rfl⟩
  rw [hneg] at hz hrp
  have HZ := Lib.hid hz
  have HRP := Lib.hid hrp
  clear hz hneg hrp
  go_enter Tryz.func224, Tryz.ntmps224
  go_wp2_with fail
  go_loop [4, 5] (fun a i => ∃ (k : Nat) (n : Int), k ≤ s.size ∧ okI n ∧ i = .int .i64 k ∧ a = .int .i64 n ∧ Hid (rp neg k n (s.data.toList.drop k) = refV s.data.toList)) (fun _ i => s.size - (intOf i).toNat)
  case atStart => exact ⟨0, 0, Nat.zero_le _, by unfold okI; omega, rfl, rfl, HRP⟩
  case round =>
    obtain ⟨k, n, hk, hok, rfl, rfl, hR⟩ := hrel
    clear HRP
    by_cases hlt : k < s.size
    · have hd : s.data.toList.drop k = s[k] :: s.data.toList.drop (k + 1) := by
        rw [List.drop_eq_getElem_cons (by rw [← Lib.size_eq]; exact hlt)]; rfl
      have hR2 := hR.out
      rw [hd, rp] at hR2
      have HR := Lib.hid hR2
      have hz := HZ.out (by omega)
      clear hR hR2 hd HZ
      have h0 : (0 : Int) < s.size := by omega
      by_cases hk0 : k = 0
      · subst hk0
        cases neg with
        | true =>
          have e : rp true 1 n (s.data.toList.drop 1) = refV s.data.toList := by rw [← HR.out, if_pos ⟨rfl, rfl⟩]
          have HE := Lib.hid e
          have hz' := hz.symm
          clear e HR hz
          go_wp2_with fail
          go_round
          case rel => exact ⟨1, n, by omega, hok, by go_num, by go_num, HE.out⟩
          case measure => simp [intOf]; omega
        | false =>
          have hz' := hz.symm
          clear hz
          by_cases h1 : (s[0].toNat : Int) < 48
          · have e : numParse s.data.toList = none := ref_none (by rw [← HR.out, if_neg (by simp), if_neg (by omega)])
            have HE := Lib.hid e
            clear HR e
            go_wp2_with fail
            go_ret2
            exact ⟨by rw [HE.out]; rfl, rfl⟩
          · by_cases h2 : (57 : Int) < s[0].toNat
            · have e : numParse s.data.toList = none := ref_none (by rw [← HR.out, if_neg (by simp), if_neg (by omega)])
              have HE := Lib.hid e
              clear HR e
              go_wp2_with fail
              go_ret2
              exact ⟨by rw [HE.out]; rfl, rfl⟩
            · have e : rp false 1 (wrap64 (wrap64 (10 * n) + ((s[0].toNat : Int) - 48))) (s.data.toList.drop 1) = refV s.data.toList := by rw [← HR.out, if_neg (by simp), if_pos (by omega), if_neg (by decide)]
              have HE := Lib.hid e
              clear e HR
              go_wp2_with fail
              go_round
              case rel => exact ⟨1, _, by omega, wrap64_ok _, by go_num, rfl, HE.out⟩
              case measure => simp [intOf]; omega
      · have hki : ((k : Int) == 0) = false := by rw [beq_eq_false_iff_ne]; omega
        by_cases h1 : (s[k].toNat : Int) < 48
        · have e : numParse s.data.toList = none := ref_none (by rw [← HR.out, if_neg (by omega), if_neg (by omega)])
          have HE := Lib.hid e
          clear HR e hz hk0
          go_wp2_with fail
          go_ret2
          exact ⟨by rw [HE.out]; rfl, rfl⟩
        · by_cases h2 : (57 : Int) < s[k].toNat
          · have e : numParse s.data.toList = none := ref_none (by rw [← HR.out, if_neg (by omega), if_neg (by omega)])
            have HE := Lib.hid e
            clear HR e hz hk0
            go_wp2_with fail
            go_ret2
            exact ⟨by rw [HE.out]; rfl, rfl⟩
          · by_cases h3 : (20 : Int) < k
            · have e : numParse s.data.toList = none := ref_none (by rw [← HR.out, if_neg (by omega), if_neg (by omega)])
              have HE := Lib.hid e
              clear HR e hz hk0
              go_wp2_with fail
              go_ret2
              exact ⟨by rw [HE.out]; rfl, rfl⟩
            · cases neg with
              | true =>
                have e : rp true (k + 1) (wrap64 (wrap64 (10 * n) - ((s[k].toNat : Int) - 48))) (s.data.toList.drop (k + 1)) = refV s.data.toList := by rw [← HR.out, if_neg (by omega), if_pos (by omega), if_pos rfl]
                have HE := Lib.hid e
                have hz' := hz.symm
                clear e HR hk0 hz
                go_wp2_with fail
                go_round
                case rel => exact ⟨k + 1, _, by omega, wrap64_ok _, by go_num, rfl, HE.out⟩
                case measure => simp [intOf]; omega
              | false =>
                have e : rp false (k + 1) (wrap64 (wrap64 (10 * n) + ((s[k].toNat : Int) - 48))) (s.data.toList.drop (k + 1)) = refV s.data.toList := by rw [← HR.out, if_neg (by omega), if_pos (by omega), if_neg (by decide)]
                have HE := Lib.hid e
                have hz' := hz.symm
                clear e HR hk0 hz
                go_wp2_with fail
                go_round
                case rel => exact ⟨k + 1, _, by omega, wrap64_ok _, by go_num, rfl, HE.out⟩
                case measure => simp [intOf]; omega
    · obtain rfl : k = s.size := by omega
      have hR2 := hR.out
      rw [List.drop_of_length_le (by rw [← Lib.size_eq]; exact Nat.le_refl _), rp] at hR2
      have C := fun W => text_ref n hok W
      have HC := Lib.hid C
      clear hR C HZ hok
      by_cases hx : Lib.itoa n = s.data.toList
      · have HE := Lib.hid (ref_yes hR2.symm hx)
        have htb : (Lib.itoa n == s.toList) = true := by rw [Lib.toList_data]; exact beq_iff_eq.2 hx
        generalize Lib.itoa n = tx at *
        clear hx hR2
        have HTB := Lib.hid htb
        clear htb
        go_wp2_with fail
        refine (HC.out _).mono ?_
        rintro e w' ⟨rfl, rfl⟩
        have htb := HTB.out
        go_wp2_with fail
        go_ret2
        exact ⟨by rw [HE.out]; rfl, rfl⟩
      · have HE := Lib.hid (ref_no hR2.symm hx)
        have htb : (Lib.itoa n == s.toList) = false := by rw [Lib.toList_data]; exact beq_eq_false_iff_ne.2 hx
        generalize Lib.itoa n = tx at *
        clear hx hR2
        have HTB := Lib.hid htb
        clear htb
        go_wp2_with fail
        refine (HC.out _).mono ?_
        rintro e w' ⟨rfl, rfl⟩
        have htb := HTB.out
        go_wp2_with fail
        go_ret2
        exact ⟨by rw [HE.out]; rfl, rfl⟩
end Go.Proofs.YtoldhocdfkndbaaGreatDoor.N2

namespace Go.Proofs.YtoldhocdfkndbaaGreatDoor.S3
open Go Go.RowKit

set_option maxHeartbeats 2000000 in
theorem refDepth1_calls (k : Nat) : ∀ (e : Ex) (v : Value) (w : World), k ≤ 20 → OkE e → EIn w w.heap.size e.args v →
    Calls Tryz.prog 241 #[eV e v, .int .i64 (k : Int)] w fun x w' => x = .returned (.int .i64 (dep k e : Nat)) ∧ Below w.heap.size w w' := by
  have ha : ∀ (w : World) (o : Obj), Below w.heap.size w (w.alloc o) := fun w o => (Below.refl _ w).alloc (Nat.le_refl _) _
  have HA := Lib.hid ha
  clear ha
  induction k with
  | zero =>
    intro e v w _ ho hE
    obtain ⟨A, c, rfl⟩ := hE.slice
    have hle := hE.le
    have C := fields_calls e ho (.slice A e.args.length c) (w.alloc (.cells #[.int .i64 e.kind, .int .i64 e.op, .int .i64 e.num, .string (B e.name), .slice A e.args.length c] 32))
    have HC := Lib.hid C
    clear C hE
    have k4 := newCell w #[.int .i64 e.kind, .int .i64 e.op, .int .i64 e.num, .string (B e.name), .slice A e.args.length c] 32 4 _ rfl
    have HK := Lib.hid k4
    clear k4
    cases hf : fldB e with
    | false =>
      have C := HC.out
      rw [hf] at C
      have HC := Lib.hid C
      clear C hf
      go_enter Tryz.func241, Tryz.ntmps241
      go_wp2_with fail
      refine HC.out.mono ?_
      rintro x w1 ⟨rfl, hb⟩
      have HB := Lib.hid (after (HA.out w _) hb)
      clear hb
      go_wp2_with fail
      go_ret
      exact ⟨rfl, HB.out⟩
    | true =>
      have C := HC.out
      rw [hf] at C
      by_cases hl : (e.args.length : Int) = fldN e.kind
      · have hl' : ((e.args.length : Int) != fldN e.kind) = false := by simpa using hl
        have HC := Lib.hid C
        clear C hf hl
        go_enter Tryz.func241, Tryz.ntmps241
        go_wp2_with fail
        refine HC.out.mono ?_
        rintro x w1 ⟨rfl, hb⟩
        have k4 := (hb.cell (p := ⟨w.heap.size, 4, none⟩) (by simp)).trans HK.out
        have HB := Lib.hid (after (HA.out w _) hb)
        clear hb
        go_wp2_with fail
        go_ret
        exact ⟨rfl, HB.out⟩
      · have hl' : ((e.args.length : Int) != fldN e.kind) = true := by simpa using hl
        have HC := Lib.hid C
        clear C hf hl
        go_enter Tryz.func241, Tryz.ntmps241
        go_wp2_with fail
        refine HC.out.mono ?_
        rintro x w1 ⟨rfl, hb⟩
        have k4 := (hb.cell (p := ⟨w.heap.size, 4, none⟩) (by simp)).trans HK.out
        have HB := Lib.hid (after (HA.out w _) hb)
        clear hb
        go_wp2_with fail
        go_ret
        exact ⟨rfl, HB.out⟩
  | succ k ih =>
    intro e v w hk ho hE
    have IH := Lib.hid ih
    clear ih
    obtain ⟨A, c, rfl⟩ := hE.slice
    have hk0 : ¬ ((k : Int) + 1 < 1) := by omega
    have HE := Lib.hid hE
    clear hE
    have hE := HE.out.le
    have C := fields_calls e ho (.slice A e.args.length c) (w.alloc (.cells #[.int .i64 e.kind, .int .i64 e.op, .int .i64 e.num, .string (B e.name), .slice A e.args.length c] 32))
    have HC := Lib.hid C
    clear C
    have k4 := newCell w #[.int .i64 e.kind, .int .i64 e.op, .int .i64 e.num, .string (B e.name), .slice A e.args.length c] 32 4 _ rfl
    have HK := Lib.hid k4
    clear k4
    cases hf : fldB e with
    | false =>
      have C := HC.out
      rw [hf] at C
      have HC := Lib.hid C
      have HF := Lib.hid (show dep (k + 1) e = 0 by rw [dep, if_neg (by simp [fitB_fld, hf])])
      clear C hf
      go_enter Tryz.func241, Tryz.ntmps241
      go_wp2_with fail
      refine HC.out.mono ?_
      rintro x w1 ⟨rfl, hb⟩
      have HB := Lib.hid (after (HA.out w _) hb)
      clear hb
      go_wp2_with fail
      go_ret
      exact ⟨by rw [HF.out]; rfl, HB.out⟩
    | true =>
      have C := HC.out
      rw [hf] at C
      by_cases hl : (e.args.length : Int) = fldN e.kind
      · have HF := Lib.hid (show dep (k + 1) e = depOf (deps (dep k) e.args) by rw [dep, if_pos (by simp [fitB_fld, hf, hl])])
        rw [← hl] at C
        have HC := Lib.hid C
        clear C hf hl
        go_enter Tryz.func241, Tryz.ntmps241
        go_wp2_with fail
        refine HC.out.mono ?_
        rintro x w1 ⟨rfl, hb⟩
        have k4 := (hb.cell (p := ⟨w.heap.size, 4, none⟩) (by simp)).trans HK.out
        have HK := Lib.hid k4
        have hw1 : w.heap.size < w1.heap.size := by have := hb.size; simp at this; omega
        have HB := Lib.hid (after (HA.out w _) hb)
        clear hb
        go_wp2_with fail
        go_loopw [7, 8] (fun d i wr => ∃ (n dd : Nat), n ≤ e.args.length ∧ i = .int .i64 n ∧ d = .int .i64 dd ∧ deps (dep k) (e.args.take n) = some dd ∧ Below w1.heap.size w1 wr) (fun _ i _ => e.args.length - (intOf i).toNat)
        case atStart => exact ⟨0, 0, by omega, rfl, rfl, rfl, Below.refl _ _⟩
        case round =>
          obtain ⟨n, dd, hn, rfl, rfl, hd, hbw⟩ := hrel
          have HD := Lib.hid hd
          have HW1 := Lib.hid hbw
          have HW := Lib.hid (after HB.out hbw)
          have k4 := (hbw.cell (p := ⟨w.heap.size, 4, none⟩) hw1).trans HK.out
          clear hd hbw
          by_cases hlt : n < e.args.length
          · obtain ⟨b, o, v', hA, hbl, hoe, hc, hsub⟩ := (HE.out.at_).2 n hlt
            obtain ⟨c0, c1, c2, c3, c4⟩ := hc.keep (fun i => HW.out.cell (p := ⟨b, i, none⟩) hbl)
            obtain ⟨A', c', rfl⟩ := hsub.slice
            have HS := Lib.hid hsub
            have hz := HW.out.size
            subst hA
            clear hsub hc
            have hsn : deps (dep k) (e.args.take (n + 1)) = if dep k e.args[n] = 0 then none else some (max dd (dep k e.args[n])) := by
              rw [List.take_succ_eq_append_getElem hlt, deps_snoc, HD.out]
            have HSN := Lib.hid hsn
            clear hsn
            have h20 := dep_le k e.args[n]
            have hnone : dep k e.args[n] = 0 → deps (dep k) e.args = none := fun h => by
              have := deps_none_of_zero (r := e.args.drop (n + 1)) HD.out h
              rwa [← List.drop_eq_getElem_cons hlt, List.take_append_drop] at this
            have HN := Lib.hid hnone
            clear hnone
            generalize e.args[n] = x at *
            have hdd := deps_bound _ k (dep_le k) _ _ HD.out
            have hko : (k : Int) ≤ 20 := by omega
            by_cases h0 : dep k x = 0
            · have HDN := Lib.hid (show dep (k + 1) e = 0 by rw [HF.out, HN.out h0]; rfl)
              go_wp2_with fail
              refine (IH.out x _ _ (by omega) hoe (HS.out.keep (by omega) fun q i hq => HW.out.cell (p := ⟨q, i, none⟩) hq)).mono ?_
              rintro x' w2 ⟨rfl, hb⟩
              have HB2 := Lib.hid (after HW.out hb)
              clear hb
              rw [h0]
              go_wp2_with fail
              go_ret
              exact ⟨by rw [HDN.out]; rfl, HB2.out⟩
            · have h0' : (((dep k x : Nat) : Int) == 0) = false := by simpa using h0
              have HSN' := Lib.hid (show deps (dep k) (e.args.take (n + 1)) = some (max dd (dep k x)) by rw [HSN.out, if_neg h0])
              by_cases hgt : dd < dep k x
              · go_wp2_with fail
                refine (IH.out x _ _ (by omega) hoe (HS.out.keep (by omega) fun q i hq => HW.out.cell (p := ⟨q, i, none⟩) hq)).mono ?_
                rintro x' w2 ⟨rfl, hb⟩
                have HB2 := Lib.hid (after HW1.out hb)
                clear hb
                go_wp2_with fail
                go_roundw
                case rel => exact ⟨n + 1, max dd (dep k x), by omega, by go_num, int_eq (by omega), HSN'.out, HB2.out⟩
                case measure => simp [intOf]; omega
              · go_wp2_with fail
                refine (IH.out x _ _ (by omega) hoe (HS.out.keep (by omega) fun q i hq => HW.out.cell (p := ⟨q, i, none⟩) hq)).mono ?_
                rintro x' w2 ⟨rfl, hb⟩
                have HB2 := Lib.hid (after HW1.out hb)
                clear hb
                go_wp2_with fail
                go_roundw
                case rel => exact ⟨n + 1, max dd (dep k x), by omega, by go_num, int_eq (by omega), HSN'.out, HB2.out⟩
                case measure => simp [intOf]; omega
          · obtain rfl : n = e.args.length := by omega
            have hd := HD.out
            rw [List.take_length] at hd
            have h20 := deps_bound _ k (dep_le k) _ _ hd
            have hdf : dep (k + 1) e = dd + 1 := by rw [HF.out, hd]; rfl
            have HDF := Lib.hid hdf
            clear hd hdf
            go_wp2_with fail
            go_ret
            exact ⟨by rw [HDF.out]; rfl, HW.out⟩
      · have hl' : ((e.args.length : Int) != fldN e.kind) = true := by simpa using hl
        have HF := Lib.hid (show dep (k + 1) e = 0 by rw [dep, if_neg (by simp [fitB_fld, hl])])
        have HC := Lib.hid C
        clear C hf hl
        go_enter Tryz.func241, Tryz.ntmps241
        go_wp2_with fail
        refine HC.out.mono ?_
        rintro x w1 ⟨rfl, hb⟩
        have k4 := (hb.cell (p := ⟨w.heap.size, 4, none⟩) (by simp)).trans HK.out
        have HB := Lib.hid (after (HA.out w _) hb)
        clear hb
        go_wp2_with fail
        go_ret
        exact ⟨by rw [HF.out]; rfl, HB.out⟩

theorem refDepth_calls (e : Ex) (ho : OkE e) (v : Value) (w : World) (hE : EIn w w.heap.size e.args v) :
    Calls Tryz.prog 239 #[eV e v] w fun x w' => x = .returned (.int .i64 (dep 20 e : Nat)) ∧ Below w.heap.size w w' := by
  obtain ⟨A, c, rfl⟩ := hE.slice
  have HE := Lib.hid hE
  clear hE
  have hb2 : ∀ o1, Below w.heap.size w (w.alloc o1) := fun o1 => (Below.refl _ w).alloc (Nat.le_refl _) _
  go_enter Tryz.func239, Tryz.ntmps239
  go_wp2_with fail
  refine (refDepth1_calls 20 e _ _ (by omega) ho (HE.out.keep (by simp) fun q i hq => (hb2 _).cell (p := ⟨q, i, none⟩) hq)).mono ?_
  rintro x' w2 ⟨rfl, hb⟩
  have HB2 := Lib.hid (after (hb2 _) hb)
  clear hb
  go_wp2_with fail
  go_ret
  exact ⟨rfl, HB2.out⟩
theorem refExpr_calls (e : Ex) (ho : OkE e) (v : Value) (w : World) (hE : EIn w w.heap.size e.args v) :
    Calls Tryz.prog 229 #[eV e v] w fun x w' => x = .returned (.int .i64 (errI (exB e))) ∧ Below w.heap.size w w' := by
  obtain ⟨A, c, rfl⟩ := hE.slice
  have HE := Lib.hid hE
  clear hE
  have hb2 : ∀ o1, Below w.heap.size w (w.alloc o1) := fun o1 => (Below.refl _ w).alloc (Nat.le_refl _) _
  by_cases h : dep 20 e = 0
  · have F := Lib.hid (show errI (exB e) = 2 by simp [errI, exB, h])
    go_enter Tryz.func229, Tryz.ntmps229
    go_wp2_with fail
    refine (refDepth_calls e ho _ _ (HE.out.keep (by simp) fun q i hq => (hb2 _).cell (p := ⟨q, i, none⟩) hq)).mono ?_
    rintro x' w2 ⟨rfl, hb⟩
    have HB2 := Lib.hid (after (hb2 _) hb)
    clear hb
    rw [h]
    go_wp2_with fail
    go_ret
    exact ⟨by rw [F.out]; rfl, HB2.out⟩
  · have F := Lib.hid (show errI (exB e) = 0 by simp [errI, exB, h])
    have h' : (((dep 20 e : Nat) : Int) == 0) = false := by simpa using h
    clear h
    go_enter Tryz.func229, Tryz.ntmps229
    go_wp2_with fail
    refine (refDepth_calls e ho _ _ (HE.out.keep (by simp) fun q i hq => (hb2 _).cell (p := ⟨q, i, none⟩) hq)).mono ?_
    rintro x' w2 ⟨rfl, hb⟩
    have HB2 := Lib.hid (after (hb2 _) hb)
    clear hb
    go_wp2_with fail
    go_ret
    exact ⟨by rw [F.out]; rfl, HB2.out⟩
end Go.Proofs.YtoldhocdfkndbaaGreatDoor.S3

namespace Go.Proofs.YtoldhocdfkndbaaGreatDoor.S3
open Go Go.RowKit Go.Sort

theorem EIn.one {w : World} {M b c : Nat} {e : Ex} {v : Value} (hb : b < M) (ho : OkE e) (h : EBox w b e v) (hs : EIn w M e.args v) : EIn w M [e] (.slice (some ⟨b, 0, none⟩) 1 c) := by
  obtain ⟨c0, c1, c2, c3, c4⟩ := h
  refine .mk [e] (some ⟨b, 0, none⟩) c (fun _ => v) (by simp) (fun i x hx => ?_) (fun i x hx => ?_)
  · cases i with
    | zero => simp at hx; subst hx; exact ⟨b, 0, rfl, hb, ho, ⟨c0, c1, c2, c3, c4⟩⟩
    | succ i => simp at hx
  · cases i with
    | zero => simp at hx; subst hx; exact hs
    | succ i => simp at hx

end Go.Proofs.YtoldhocdfkndbaaGreatDoor.S3

namespace Go.Proofs.YtoldhocdfkndbaaGreatDoor.E5
open Go Go.RowKit Go.Proofs.YtoldhocdfkndbaaGreatDoor

theorem tokU {W W' : World} {v : Value} {l : TL} (h : TokL W W.heap.size v l) (hb : Below W.heap.size W W') : TokL W' W'.heap.size v l := (h.bel hb).keep hb.size fun _ _ _ => rfl
theorem tk_out {l : TL} {i : Nat} (h : l.length ≤ i) : tkAt l i = (0, []) := by unfold tkAt; rw [List.getElem?_eq_none h]; rfl
theorem tk_in {l : TL} {i : Nat} (h : i < l.length) : l[i]? = some (tkAt l i) := by unfold tkAt; rw [List.getElem?_eq_getElem h]; rfl
set_option maxRecDepth 100000 in
set_option maxHeartbeats 1000000 in
theorem ris_calls {w : World} {l : TL} {v : Value} (hT : TokL w w.heap.size v l) (i : Nat) (k : Int) (s : Bytes) (hk : k ≠ 0) :
    Calls Tryz.prog 209 #[v, .int .i64 (i : Int), .int .i64 k, .string (B s)] w fun e w' => e = .returned (.bool (decide (tkAt l i = (k, s)))) ∧ Below w.heap.size w w' := by
  obtain ⟨A, c, rfl, hl, ht⟩ := hT
  rcases Nat.lt_or_ge i l.length with hlt | hge
  · obtain ⟨_, tb, o, a, rfl, hbl, e0, e1, e2⟩ := ht i _ (tk_in hlt)
    have q : (i : Int) < (l.length : Int) := by omega
    have hi0 : (0 : Int) ≤ (i : Int) := by omega
    generalize tkAt l i = t at *
    obtain ⟨t1, t2⟩ := t
    clear ht e2
    simp only at e0 e1
    by_cases h1 : t1 = k
    · subst h1
      by_cases h2 : t2 = s
      · subst h2
        rw [decide_eq_true rfl]
        have q1 : (t1 == t1) = true := beq_self_eq_true _
        have q2 : (t2 == t2) = true := beq_self_eq_true _
        go_enter Tryz.func209, Tryz.ntmps209
        go_wp2_with fail
        go_ret
        exact ⟨rfl, Below.refl _ _⟩
      · have F := Lib.hid (decide_eq_false (p := ((t1, t2) = (t1, s))) (by simpa using h2))
        have q1 : (t1 == t1) = true := beq_self_eq_true _
        have q2 : (t2 == s) = false := beq_eq_false_iff_ne.2 h2
        go_enter Tryz.func209, Tryz.ntmps209
        go_wp2_with fail
        go_ret
        exact ⟨by first | rfl | (rw [F.out]; rfl), Below.refl _ _⟩
    · have F := Lib.hid (decide_eq_false (p := ((t1, t2) = (k, s))) (by simp [h1]))
      have q1 : (t1 == k) = false := beq_eq_false_iff_ne.2 h1
      go_enter Tryz.func209, Tryz.ntmps209
      go_wp2_with fail
      go_ret
      exact ⟨by first | rfl | (rw [F.out]; rfl), Below.refl _ _⟩
  · have F := Lib.hid (decide_eq_false (p := (tkAt l i = (k, s))) (by rw [tk_out hge]; intro e; exact hk (Prod.mk.inj e).1.symm))
    have q : ¬ (i : Int) < (l.length : Int) := by omega
    go_enter Tryz.func209, Tryz.ntmps209
    go_wp2_with fail
    go_ret
    exact ⟨by first | rfl | (rw [F.out]; rfl), Below.refl _ _⟩
theorem is_sg {l : TL} {i : Nat} {s : Bytes} (hs : s ≠ []) : decide (tkAt l i = (4, s)) = (sgAt l i == s) := by
  unfold sgAt
  generalize tkAt l i = t
  obtain ⟨t1, t2⟩ := t
  by_cases h : t1 = 4
  · subst h; simp
    by_cases h2 : t2 = s
    · simp [h2]
    · simp [h2]
  · simp only [h, if_false, Prod.mk.injEq, false_and, decide_false]
    exact (beq_eq_false_iff_ne.2 fun e => hs e.symm).symm
theorem rsg_calls {w : World} {l : TL} {v : Value} (hT : TokL w w.heap.size v l) (i : Nat) (s : Bytes) (hs : s ≠ []) :
    Calls Tryz.prog 209 #[v, .int .i64 (i : Int), .int .i64 4, .string (B s)] w fun e w' => e = .returned (.bool (sgAt l i == s)) ∧ Below w.heap.size w w' := by
  have := ris_calls hT i 4 s (by decide)
  rwa [is_sg hs] at this
set_option maxRecDepth 100000 in
set_option maxHeartbeats 1000000 in
theorem rnm_calls (k : Int) (s : Bytes) (a : Int) (hs : s.length ≤ 9223372036854775807) (w : World) :
    Calls Tryz.prog 226 #[.agg #[.int .i64 k, .string (B s), .int .i64 a]] w fun e w' => e = .returned (.bool (nmTok (k, s))) ∧ Below w.heap.size w w' := by
  by_cases h : k = 1
  · subst h
    have F := Lib.hid (show nmTok (1, s) = S3.nameB s by simp [nmTok])
    have C := Lib.hid (S3.refName_calls s hs)
    go_enter Tryz.func226, Tryz.ntmps226
    go_wp2_with fail
    refine (C.out _).mono ?_
    rintro e w1 ⟨rfl, hb⟩
    have HB := Lib.hid hb
    clear hb
    go_wp2_with fail
    go_ret
    exact ⟨by first | rfl | (rw [F.out]; rfl), by first | exact HB.out | exact after (S3.bal w _) HB.out⟩
  · have F := Lib.hid (show nmTok (k, s) = false by simp [nmTok, h])
    have q1 : (k == 1) = false := beq_eq_false_iff_ne.2 h
    go_enter Tryz.func226, Tryz.ntmps226
    go_wp2_with fail
    go_ret
    exact ⟨by first | rfl | (rw [F.out]; rfl), by first | exact Below.refl _ _ | exact S3.bal w _⟩
end Go.Proofs.YtoldhocdfkndbaaGreatDoor.E5

namespace Go.Proofs.YtoldhocdfkndbaaGreatDoor.E5
open Go Go.RowKit Go.Proofs.YtoldhocdfkndbaaGreatDoor

abbrev zO : Obj := .cells #[.int .i64 0, .int .i64 0, .int .i64 0, .string ⟨#[]⟩, .slice none 0 0] 32
theorem put5_al {w : World} {q : Nat} (h : R5 w q) (a0 a1 a2 a3 a4 : Value) (o : Obj) : ((put5 w q a0 a1 a2 a3 a4).alloc o).cell? ⟨q, 0, none⟩ = some a0 ∧ ((put5 w q a0 a1 a2 a3 a4).alloc o).cell? ⟨q, 1, none⟩ = some a1 ∧ ((put5 w q a0 a1 a2 a3 a4).alloc o).cell? ⟨q, 2, none⟩ = some a2 ∧ ((put5 w q a0 a1 a2 a3 a4).alloc o).cell? ⟨q, 3, none⟩ = some a3 ∧ ((put5 w q a0 a1 a2 a3 a4).alloc o).cell? ⟨q, 4, none⟩ = some a4 := by
  have hr := put5_row h a0 a1 a2 a3 a4
  have hlt := row5_lt hr
  have h2 := ((S3.bal (put5 w q a0 a1 a2 a3 a4) o).block q hlt).trans hr
  exact ⟨(cell_of_row _ _ 0 _ _ _ h2).trans rfl, (cell_of_row _ _ 1 _ _ _ h2).trans rfl, (cell_of_row _ _ 2 _ _ _ h2).trans rfl, (cell_of_row _ _ 3 _ _ _ h2).trans rfl, (cell_of_row _ _ 4 _ _ _ h2).trans rfl⟩
theorem bal_dr2 (w : World) : Below w.heap.size w w.drew := (Below.refl _ w).drew
/-- What index's last region reads: a token's text, the expression's box. -/
structure IxS (W : World) (tb o q : Nat) (s : Bytes) (e : Ex) (va : Value) : Prop where
  t : W.cell? ⟨tb, o, none⟩ = some (.string (B s))
  x : S3.EBox W q e va
theorem IxS.bel {W W' : World} {tb o q : Nat} {s : Bytes} {e : Ex} {va : Value} (h : IxS W tb o q s e va) (hb : Below W.heap.size W W') (h1 : tb < W.heap.size) (h2 : q < W.heap.size) : IxS W' tb o q s e va :=
  ⟨(hb.cell (p := ⟨tb, o, none⟩) h1).trans h.t, h.x.keep hb h2⟩
theorem IxS.put {W : World} {tb o q z : Nat} {s : Bytes} {e : Ex} {va : Value} (h : IxS W tb o q s e va) (a0 a1 a2 a3 a4 : Value) (h1 : tb ≠ z) (h2 : q ≠ z) : IxS (put5 W z a0 a1 a2 a3 a4) tb o q s e va := by
  have h6 := put5_heap W z a0 a1 a2 a3 a4
  generalize put5 W z a0 a1 a2 a3 a4 = W' at *
  have k := fun b i (hb : b ≠ z) => World.cell?_of_block (w := W) (w' := W') (a := ⟨b, i, none⟩) (h6 b hb)
  exact ⟨(k tb o h1).trans h.t, ⟨(k q 0 h2).trans h.x.c0, (k q 1 h2).trans h.x.c1, (k q 2 h2).trans h.x.c2, (k q 3 h2).trans h.x.c3, (k q 4 h2).trans h.x.c4⟩⟩
theorem zE_in (w : World) (R : Nat → Prop) : S3.ER w R zE.args (.slice none 0 0) := er_nil w R
theorem rsg_is {w : World} {l : TL} {v : Value} (hT : TokL w w.heap.size v l) {i : Nat} {j : Int} {s : Bytes} {b : Bool} (hq : (sgAt l i == s) = b) (hs : s ≠ []) (hj : j = (i : Int)) :
    Calls Tryz.prog 209 #[v, .int .i64 j, .int .i64 4, .string (B s)] w fun e w' => e = .returned (.bool b) ∧ Below w.heap.size w w' := by
  subst hj
  rw [← hq]
  exact rsg_calls hT i s hs
theorem rkw_is {w : World} {l : TL} {v : Value} (hT : TokL w w.heap.size v l) {i : Nat} {j : Int} {s : Bytes} {b : Bool} (hq : decide (tkAt l i = (3, s)) = b) (hj : j = (i : Int)) :
    Calls Tryz.prog 209 #[v, .int .i64 j, .int .i64 3, .string (B s)] w fun e w' => e = .returned (.bool b) ∧ Below w.heap.size w w' := by
  subst hj
  rw [← hq]
  exact ris_calls hT i 3 s (by decide)
/-- The cells of a token. -/
theorem TokL.at3 {w : World} {l : TL} {A : Option Addr} {n c : Nat} (h : TokL w w.heap.size (.slice A n c) l) (i : Nat) (hi : i < l.length) : n = l.length ∧ (tkAt l i).2.length ≤ 9223372036854775807 ∧ ∃ b o a, A = some ⟨b, o, none⟩ ∧ b < w.heap.size ∧ w.cell? ⟨b, o + i * 3, none⟩ = some (.int .i64 (tkAt l i).1) ∧ w.cell? ⟨b, o + i * 3 + 1, none⟩ = some (.string (B (tkAt l i).2)) ∧ w.cell? ⟨b, o + i * 3 + 2, none⟩ = some (.int .i64 a) := by
  obtain ⟨A', c', h1, h2, h3⟩ := h
  cases h1
  obtain ⟨e0, b, o, a, e1, e2, e3, e4, e5⟩ := h3 i _ (tk_in hi)
  exact ⟨rfl, e0, b, o, a, e1, e2, e3, e4, e5⟩
set_option maxRecDepth 100000 in
set_option maxHeartbeats 2000000 in
theorem rmade_yes (e : Ex) (ho : S3.OkE e) (hx : S3.exB e = true) (A : Option Addr) (k c : Nat) (j : Int) (hn : 1 ≤ j) (hn2 : j ≤ 9223372036854775807) (w : World) (hE : S3.EIn w w.heap.size e.args (.slice A k c)) :
    Calls Tryz.prog 208 #[S3.eV e (.slice A k c), .int .i64 j] w fun E w' => E = .returned (.tuple #[S3.eV e (.slice A k c), .int .i64 j, .int .i64 0]) ∧ Below w.heap.size w w' := by
  have C0 := fun W (hb : Below w.heap.size w W) => S3.refExpr_calls e ho (.slice A k c) W (hE.keep hb.size fun q i hq => hb.cell (p := ⟨q, i, none⟩) hq)
  rw [hx] at C0
  have C := Lib.hid C0
  have B2 := Lib.hid (fun o p => (S3.bal w o).alloc (by simp) p)
  have Q := Lib.hid (fun o a0 a1 a2 a3 a4 => R5.new (w.alloc o) a0 a1 a2 a3 a4)
  have X := Lib.hid (fun p => (S3.EBox.new w e (.slice A k c)).keep (S3.bal (w.alloc (S3.eO e (.slice A k c))) p) (by simp))
  have hs : IntKind.i64.wrap (j - 1) = j - 1 := IntWalk.i64_in _ (by omega)
  clear hE C0
  go_enter Tryz.func208, Tryz.ntmps208
  try simp only [List.append_eq, List.cons_append, List.nil_append]
  go_wp2_with fail
  refine (C.out _ (B2.out _ _)).mono ?_
  rintro E w1 ⟨rfl, hb⟩
  obtain ⟨z0, z1, z2, z3, z4, r0, r1, r2, r3, r4, y0, y1, y2, y3, y4⟩ := ((Q.out _ _ _ _ _ _).bel hb).facts
  have hq1 := ((Q.out _ _ _ _ _ _).bel hb).lt
  obtain ⟨x0, x1, x2, x3, x4⟩ := (X.out _).keep hb (by rw [S3.sz1, S3.sz1]; omega)
  rw [S3.sz1] at r0 r1 r2 r3 r4 y0 y1 y2 y3 y4 hq1
  have HF := Lib.hid (put5_below (after (B2.out (S3.eO e (.slice A k c)) zO) hb) (q := w.heap.size + 1) (by omega) (.int .i64 e.kind) (.int .i64 e.op) (.int .i64 e.num) (.string (S3.B e.name)) (.slice A k c))
  clear hb C
  go_wp2_with fail
  exact bodyPost_ret (v := .tuple #[S3.eV e (.slice A k c), .int .i64 (j), .int .i64 0]) (by simp [results, Tryz.results208, go_sem, r0, r1, r2, r3, r4]) rfl ⟨rfl, HF.out⟩
set_option maxRecDepth 100000 in
set_option maxHeartbeats 2000000 in
theorem rmade_no (e : Ex) (ho : S3.OkE e) (hx : S3.exB e = false) (A : Option Addr) (k c : Nat) (j : Int) (hn : 1 ≤ j) (hn2 : j ≤ 9223372036854775807) (w : World) (hE : S3.EIn w w.heap.size e.args (.slice A k c)) :
    Calls Tryz.prog 208 #[S3.eV e (.slice A k c), .int .i64 j] w fun E w' => E = .returned (.tuple #[S3.eV zE (.slice none 0 0), .int .i64 (j - 1), .int .i64 8]) ∧ Below w.heap.size w w' := by
  have C0 := fun W (hb : Below w.heap.size w W) => S3.refExpr_calls e ho (.slice A k c) W (hE.keep hb.size fun q i hq => hb.cell (p := ⟨q, i, none⟩) hq)
  rw [hx] at C0
  have C := Lib.hid C0
  have B2 := Lib.hid (fun o p => (S3.bal w o).alloc (by simp) p)
  have Q := Lib.hid (fun o a0 a1 a2 a3 a4 => R5.new (w.alloc o) a0 a1 a2 a3 a4)
  have X := Lib.hid (fun p => (S3.EBox.new w e (.slice A k c)).keep (S3.bal (w.alloc (S3.eO e (.slice A k c))) p) (by simp))
  have hs : IntKind.i64.wrap (j - 1) = j - 1 := IntWalk.i64_in _ (by omega)
  clear hE C0
  go_enter Tryz.func208, Tryz.ntmps208
  try simp only [List.append_eq, List.cons_append, List.nil_append]
  go_wp2_with fail
  refine (C.out _ (B2.out _ _)).mono ?_
  rintro E w1 ⟨rfl, hb⟩
  obtain ⟨z0, z1, z2, z3, z4, r0, r1, r2, r3, r4, y0, y1, y2, y3, y4⟩ := ((Q.out _ _ _ _ _ _).bel hb).facts
  have hq1 := ((Q.out _ _ _ _ _ _).bel hb).lt
  obtain ⟨x0, x1, x2, x3, x4⟩ := (X.out _).keep hb (by rw [S3.sz1, S3.sz1]; omega)
  rw [S3.sz1] at r0 r1 r2 r3 r4 y0 y1 y2 y3 y4 hq1
  have HF := Lib.hid (put5_below (after (B2.out (S3.eO e (.slice A k c)) zO) hb) (q := w.heap.size + 1) (by omega) (.int .i64 0) (.int .i64 0) (.int .i64 0) (.string ⟨#[]⟩) (.slice none 0 0))
  clear hb C
  go_wp2_with fail
  exact bodyPost_ret (v := .tuple #[S3.eV zE (.slice none 0 0), .int .i64 (j - 1), .int .i64 8]) (by simp [results, Tryz.results208, go_sem, zE, r0, r1, r2, r3, r4]) rfl ⟨rfl, HF.out⟩
set_option maxRecDepth 100000 in
set_option maxHeartbeats 2000000 in
theorem rlen_open {w : World} {l : TL} {v : Value} (hT : TokL w w.heap.size v l) (_hll : l.length ≤ 1000000) (i : Nat) (_hi : i ≤ l.length) (hs : sgAt l (i + 1) ≠ [40]) :
    Calls Tryz.prog 225 #[v, .int .i64 (i : Int)] w (PostP w (.bad (i + 1) 7)) := by
  have q1 : (sgAt l (i + 1) == [40]) = false := beq_eq_false_iff_ne.2 hs
  have HT0 := Lib.hid (fun o => tokU hT (S3.bal w o))
  have Q := Lib.hid (fun a0 a1 a2 a3 a4 => R5.new w a0 a1 a2 a3 a4)
  clear hT
  go_enter Tryz.func225, Tryz.ntmps225
  try simp only [List.append_eq, List.cons_append, List.nil_append]
  go_wp2_with fail
  refine (rsg_is (HT0.out _) q1 (by simp) (by omega)).mono ?_
  rintro E w1 ⟨rfl, hb⟩
  have HB1 := Lib.hid (hb)
  have HT1 := Lib.hid (tokU (HT0.out _) hb)
  clear hb
  obtain ⟨z0, z1, z2, z3, z4, r0, r1, r2, r3, r4, y0, y1, y2, y3, y4⟩ := ((Q.out _ _ _ _ _).bel HB1.out).facts
  have hq1 := ((Q.out _ _ _ _ _).bel HB1.out).lt
  have HF := Lib.hid (parse_fin zE none 0 0 HB1.out (zE_in _ _)).2
  go_wp2_with fail
  exact bodyPost_ret (v := .tuple #[S3.eV zE (.slice none 0 0), .int .i64 ((i : Int) + 1), .int .i64 7]) (by simp [results, Tryz.results225, go_sem, zE, r0, r1, r2, r3, r4]) rfl ⟨by rw [show ((i + 1 : Nat) : Int) = (i : Int) + 1 by omega], HF.out⟩
set_option maxRecDepth 100000 in
set_option maxHeartbeats 2000000 in
theorem rlen_end {w : World} {l : TL} {v : Value} (hT : TokL w w.heap.size v l) (_hll : l.length ≤ 1000000) (i : Nat) (_hi : i ≤ l.length) (hs : sgAt l (i + 1) = [40]) (hl : l.length ≤ i + 2) :
    Calls Tryz.prog 225 #[v, .int .i64 (i : Int)] w (PostP w (.bad (i + 2) 7)) := by
  have q1 : (sgAt l (i + 1) == [40]) = true := by rw [hs]; rfl
  obtain ⟨A, c, rfl⟩ := hT.val
  have hge : (l.length : Int) ≤ (i : Int) + 2 := by omega
  have HT0 := Lib.hid (fun o => tokU hT (S3.bal w o))
  have Q := Lib.hid (fun a0 a1 a2 a3 a4 => R5.new w a0 a1 a2 a3 a4)
  clear hT
  go_enter Tryz.func225, Tryz.ntmps225
  try simp only [List.append_eq, List.cons_append, List.nil_append]
  go_wp2_with fail
  refine (rsg_is (HT0.out _) q1 (by simp) (by omega)).mono ?_
  rintro E w1 ⟨rfl, hb⟩
  have HB1 := Lib.hid (hb)
  have HT1 := Lib.hid (tokU (HT0.out _) hb)
  clear hb
  obtain ⟨z0, z1, z2, z3, z4, r0, r1, r2, r3, r4, y0, y1, y2, y3, y4⟩ := ((Q.out _ _ _ _ _).bel HB1.out).facts
  have hq1 := ((Q.out _ _ _ _ _).bel HB1.out).lt
  have HF := Lib.hid (parse_fin zE none 0 0 HB1.out (zE_in _ _)).2
  go_wp2_with fail
  exact bodyPost_ret (v := .tuple #[S3.eV zE (.slice none 0 0), .int .i64 ((i : Int) + 2), .int .i64 7]) (by simp [results, Tryz.results225, go_sem, zE, r0, r1, r2, r3, r4]) rfl ⟨by rw [show ((i + 2 : Nat) : Int) = (i : Int) + 2 by omega], HF.out⟩
set_option maxRecDepth 100000 in
set_option maxHeartbeats 2000000 in
theorem rlen_name {w : World} {l : TL} {v : Value} (hT : TokL w w.heap.size v l) (_hll : l.length ≤ 1000000) (i : Nat) (_hi : i ≤ l.length) (hs : sgAt l (i + 1) = [40]) (hl : i + 2 < l.length) (hn : nmTok (tkAt l (i + 2)) = false) :
    Calls Tryz.prog 225 #[v, .int .i64 (i : Int)] w (PostP w (.bad (i + 2) 7)) := by
  have q1 : (sgAt l (i + 1) == [40]) = true := by rw [hs]; rfl
  obtain ⟨A, c, rfl⟩ := hT.val
  have HT0 := Lib.hid (fun o => tokU hT (S3.bal w o))
  have Q := Lib.hid (fun a0 a1 a2 a3 a4 => R5.new w a0 a1 a2 a3 a4)
  clear hT
  go_enter Tryz.func225, Tryz.ntmps225
  try simp only [List.append_eq, List.cons_append, List.nil_append]
  go_wp2_with fail
  refine (rsg_is (HT0.out _) q1 (by simp) (by omega)).mono ?_
  rintro E w1 ⟨rfl, hb⟩
  have HB1 := Lib.hid (hb)
  have HT1 := Lib.hid (tokU (HT0.out _) hb)
  clear hb
  obtain ⟨_, htl, tb, og, ta, rfl, htb, t0, t1, t2⟩ := HT1.out.at3 (i + 2) hl
  have hge : ¬ (l.length : Int) ≤ (i : Int) + 2 := by omega
  go_wp2_with fail
  refine (rnm_calls _ _ _ htl _).mono ?_
  rintro E w2 ⟨rfl, hb⟩
  rw [show nmTok ((tkAt l (i + 2)).1, (tkAt l (i + 2)).2) = false from hn]
  have HB2 := Lib.hid (after HB1.out hb)
  have HT2 := Lib.hid (tokU HT1.out hb)
  clear hb
  obtain ⟨z0, z1, z2, z3, z4, r0, r1, r2, r3, r4, y0, y1, y2, y3, y4⟩ := ((Q.out _ _ _ _ _).bel HB2.out).facts
  have hq1 := ((Q.out _ _ _ _ _).bel HB2.out).lt
  have HF := Lib.hid (parse_fin zE none 0 0 HB2.out (zE_in _ _)).2
  go_wp2_with fail
  exact bodyPost_ret (v := .tuple #[S3.eV zE (.slice none 0 0), .int .i64 ((i : Int) + 2), .int .i64 7]) (by simp [results, Tryz.results225, go_sem, zE, r0, r1, r2, r3, r4]) rfl ⟨by rw [show ((i + 2 : Nat) : Int) = (i : Int) + 2 by omega], HF.out⟩
set_option maxRecDepth 100000 in
set_option maxHeartbeats 2000000 in
theorem rlen_shut {w : World} {l : TL} {v : Value} (hT : TokL w w.heap.size v l) (_hll : l.length ≤ 1000000) (i : Nat) (_hi : i ≤ l.length) (hs : sgAt l (i + 1) = [40]) (hl : i + 2 < l.length) (hn : nmTok (tkAt l (i + 2)) = true) (hs3 : sgAt l (i + 3) ≠ [41]) :
    Calls Tryz.prog 225 #[v, .int .i64 (i : Int)] w (PostP w (.bad (i + 3) 7)) := by
  have q1 : (sgAt l (i + 1) == [40]) = true := by rw [hs]; rfl
  have q3 : (sgAt l (i + 3) == [41]) = false := beq_eq_false_iff_ne.2 hs3
  obtain ⟨A, c, rfl⟩ := hT.val
  have HT0 := Lib.hid (fun o => tokU hT (S3.bal w o))
  have Q := Lib.hid (fun a0 a1 a2 a3 a4 => R5.new w a0 a1 a2 a3 a4)
  clear hT
  go_enter Tryz.func225, Tryz.ntmps225
  try simp only [List.append_eq, List.cons_append, List.nil_append]
  go_wp2_with fail
  refine (rsg_is (HT0.out _) q1 (by simp) (by omega)).mono ?_
  rintro E w1 ⟨rfl, hb⟩
  have HB1 := Lib.hid (hb)
  have HT1 := Lib.hid (tokU (HT0.out _) hb)
  clear hb
  obtain ⟨_, htl, tb, og, ta, rfl, htb, t0, t1, t2⟩ := HT1.out.at3 (i + 2) hl
  have hge : ¬ (l.length : Int) ≤ (i : Int) + 2 := by omega
  go_wp2_with fail
  refine (rnm_calls _ _ _ htl _).mono ?_
  rintro E w2 ⟨rfl, hb⟩
  rw [show nmTok ((tkAt l (i + 2)).1, (tkAt l (i + 2)).2) = true from hn]
  have HB2 := Lib.hid (after HB1.out hb)
  have HT2 := Lib.hid (tokU HT1.out hb)
  clear hb
  go_wp2_with fail
  refine (rsg_is HT2.out q3 (by simp) (by omega)).mono ?_
  rintro E w3 ⟨rfl, hb⟩
  have HB3 := Lib.hid (after HB2.out hb)
  have HT3 := Lib.hid (tokU HT2.out hb)
  clear hb
  obtain ⟨z0, z1, z2, z3, z4, r0, r1, r2, r3, r4, y0, y1, y2, y3, y4⟩ := ((Q.out _ _ _ _ _).bel HB3.out).facts
  have hq1 := ((Q.out _ _ _ _ _).bel HB3.out).lt
  have HF := Lib.hid (parse_fin zE none 0 0 HB3.out (zE_in _ _)).2
  go_wp2_with fail
  exact bodyPost_ret (v := .tuple #[S3.eV zE (.slice none 0 0), .int .i64 ((i : Int) + 3), .int .i64 7]) (by simp [results, Tryz.results225, go_sem, zE, r0, r1, r2, r3, r4]) rfl ⟨by rw [show ((i + 3 : Nat) : Int) = (i : Int) + 3 by omega], HF.out⟩
set_option maxRecDepth 100000 in
set_option maxHeartbeats 2000000 in
theorem rlen_ok {w : World} {l : TL} {v : Value} (hT : TokL w w.heap.size v l) (_hll : l.length ≤ 1000000) (i : Nat) (_hi : i ≤ l.length) (hs : sgAt l (i + 1) = [40]) (hl : i + 2 < l.length) (hn : nmTok (tkAt l (i + 2)) = true) (hs3 : sgAt l (i + 3) = [41]) :
    Calls Tryz.prog 225 #[v, .int .i64 (i : Int)] w (PostP w (.ok ⟨7, 0, 0, (tkAt l (i + 2)).2, []⟩ (i + 4))) := by
  have q1 : (sgAt l (i + 1) == [40]) = true := by rw [hs]; rfl
  have q3 : (sgAt l (i + 3) == [41]) = true := by rw [hs3]; rfl
  obtain ⟨A, c, rfl⟩ := hT.val
  have HT0 := Lib.hid (fun o => tokU hT (S3.bal w o))
  have Q := Lib.hid (fun a0 a1 a2 a3 a4 => R5.new w a0 a1 a2 a3 a4)
  clear hT
  go_enter Tryz.func225, Tryz.ntmps225
  try simp only [List.append_eq, List.cons_append, List.nil_append]
  go_wp2_with fail
  refine (rsg_is (HT0.out _) q1 (by simp) (by omega)).mono ?_
  rintro E w1 ⟨rfl, hb⟩
  have HB1 := Lib.hid (hb)
  have HT1 := Lib.hid (tokU (HT0.out _) hb)
  clear hb
  obtain ⟨_, htl, tb, og, ta, rfl, htb, t0, t1, t2⟩ := HT1.out.at3 (i + 2) hl
  have hge : ¬ (l.length : Int) ≤ (i : Int) + 2 := by omega
  go_wp2_with fail
  refine (rnm_calls _ _ _ htl _).mono ?_
  rintro E w2 ⟨rfl, hb⟩
  rw [show nmTok ((tkAt l (i + 2)).1, (tkAt l (i + 2)).2) = true from hn]
  have HB2 := Lib.hid (after HB1.out hb)
  have HT2 := Lib.hid (tokU HT1.out hb)
  clear hb
  go_wp2_with fail
  refine (rsg_is HT2.out q3 (by simp) (by omega)).mono ?_
  rintro E w3 ⟨rfl, hb⟩
  have HB3 := Lib.hid (after HB2.out hb)
  have HT3 := Lib.hid (tokU HT2.out hb)
  clear hb
  obtain ⟨_, _, tb', og', ta', e9, htb3, u0, u1, u2⟩ := HT3.out.at3 (i + 2) hl
  cases e9
  have HO := Lib.hid (okE_leaf (k := 7) (n := 0) (s := (tkAt l (i + 2)).2) (by decide) (by unfold S3.okI; omega) htl)
  clear t0 t1 t2 u0 u2 hn hs hs3 q1 q3
  generalize (tkAt l (i + 2)).2 = s at *
  obtain ⟨z0, z1, z2, z3, z4, r0, r1, r2, r3, r4, y0, y1, y2, y3, y4⟩ := ((Q.out _ _ _ _ _).bel HB3.out).facts
  have hq1 := ((Q.out _ _ _ _ _).bel HB3.out).lt
  have HF := Lib.hid (parse_fin ⟨7, 0, 0, s, []⟩ none 0 0 HB3.out (er_nil _ _))
  go_wp2_with fail
  exact bodyPost_ret (v := .tuple #[S3.eV ⟨7, 0, 0, s, []⟩ (.slice none 0 0), .int .i64 ((i : Int) + 4), .int .i64 0]) (by simp [results, Tryz.results225, go_sem, r0, r1, r2, r3, r4]) rfl ⟨none, 0, 0, by rw [show ((i + 4 : Nat) : Int) = (i : Int) + 4 by omega], HO.out, HF.out.1, HF.out.2⟩
theorem rlen_calls {w : World} {l : TL} {v : Value} (hT : TokL w w.heap.size v l) (hll : l.length ≤ 1000000) (i : Nat) (hi : i ≤ l.length) :
    Calls Tryz.prog 225 #[v, .int .i64 (i : Int)] w (PostP w (lenR l i)) := by
  unfold lenR
  by_cases h1 : sgAt l (i + 1) = [40]
  · rw [if_pos h1]
    rcases Nat.lt_or_ge (i + 2) l.length with h2 | h2
    · cases hn : nmTok (tkAt l (i + 2)) with
      | false => exact rlen_name hT hll i hi h1 h2 hn
      | true =>
        rw [if_pos rfl]
        by_cases h3 : sgAt l (i + 3) = [41]
        · rw [if_pos h3]; exact rlen_ok hT hll i hi h1 h2 hn h3
        · rw [if_neg h3]; exact rlen_shut hT hll i hi h1 h2 hn h3
    · rw [tk_out h2, if_neg (by decide)]
      exact rlen_end hT hll i hi h1 h2
  · rw [if_neg h1]; exact rlen_open hT hll i hi h1
abbrev OPR (l : TL) (v : Value) (i d : Nat) : Prop := ∀ W, TokL W W.heap.size v l → Calls Tryz.prog 207 #[v, .int .i64 (i : Int), .int .i64 (d : Int)] W (PostP W (opdR l i d))
abbrev BIR (l : TL) (v : Value) (i d : Nat) (m : Int) : Prop := ∀ W, TokL W W.heap.size v l → Calls Tryz.prog 194 #[v, .int .i64 (i : Int), .int .i64 (d : Int), .int .i64 m] W (PostP W (binR l i d m))
set_option maxRecDepth 100000 in
set_option maxHeartbeats 2000000 in
theorem rix_deep {w : World} {l : TL} {v : Value} (hT : TokL w w.heap.size v l) (_hll : l.length ≤ 1000000) (i : Nat) (_hi : i ≤ l.length) (d : Nat) (_hd : d ≤ 9223372036854775807) (h40 : 40 ≤ d) :
    Calls Tryz.prog 227 #[v, .int .i64 (i : Int), .int .i64 (d : Int)] w (PostP w (.bad (i + 1) 8)) := by
  have h40' : (40 : Int) ≤ (d : Int) := by omega
  have HT0 := Lib.hid (fun o => tokU hT (S3.bal w o))
  have Q := Lib.hid (fun a0 a1 a2 a3 a4 => R5.new w a0 a1 a2 a3 a4)
  clear hT
  go_enter Tryz.func227, Tryz.ntmps227
  try simp only [List.append_eq, List.cons_append, List.nil_append]
  go_wp2_with fail
  exact bodyPost_ret (v := .tuple #[S3.eV zE (.slice none 0 0), .int .i64 ((i : Int) + 1), .int .i64 8]) (by simp [results, Tryz.results227, go_sem, zE]) rfl ⟨by rw [show ((i + 1 : Nat) : Int) = (i : Int) + 1 by omega], S3.bal w _⟩
set_option maxRecDepth 100000 in
set_option maxHeartbeats 2000000 in
theorem rix_bad {w : World} {l : TL} {v : Value} (hT : TokL w w.heap.size v l) (_hll : l.length ≤ 1000000) (i : Nat) (_hi : i ≤ l.length) (d : Nat) (_hd : d ≤ 9223372036854775807) (h40 : d < 40) (C : BIR l v (i + 2) (d + 1) 1) (j : Nat) (c : Int) (hc : c ≠ 0) (hr : binR l (i + 2) (d + 1) 1 = .bad j c) :
    Calls Tryz.prog 227 #[v, .int .i64 (i : Int), .int .i64 (d : Int)] w (PostP w (.bad j c)) := by
  have h40' : ¬ (40 : Int) ≤ (d : Int) := by omega
  have C := Lib.hid C
  have HT0 := Lib.hid (fun o => tokU hT (S3.bal w o))
  have Q := Lib.hid (fun a0 a1 a2 a3 a4 => R5.new w a0 a1 a2 a3 a4)
  clear hT
  go_enter Tryz.func227, Tryz.ntmps227
  try simp only [List.append_eq, List.cons_append, List.nil_append]
  go_wp2_with fail
  rw [show (i : Int) + 2 = ((i + 2 : Nat) : Int) by omega, show (d : Int) + 1 = ((d + 1 : Nat) : Int) by omega]
  have C1 := C.out (w.alloc zO) (HT0.out zO)
  rw [hr] at C1
  refine C1.mono ?_
  clear C1
  rintro E w1 ⟨rfl, hb⟩
  have HB1 := Lib.hid hb
  have hq : (c == 0) = false := beq_eq_false_iff_ne.2 hc
  clear hb
  obtain ⟨z0, z1, z2, z3, z4, r0, r1, r2, r3, r4, y0, y1, y2, y3, y4⟩ := ((Q.out _ _ _ _ _).bel HB1.out).facts
  have hq1 := ((Q.out _ _ _ _ _).bel HB1.out).lt
  have S5 := fun o => put5_al ((Q.out _ _ _ _ _).bel HB1.out) (.int .i64 0) (.int .i64 0) (.int .i64 0) (.string ⟨#[]⟩) (.slice none 0 0) o
  have s0 := fun o => (S5 o).1
  have s1 := fun o => (S5 o).2.1
  have s2 := fun o => (S5 o).2.2.1
  have s3 := fun o => (S5 o).2.2.2.1
  have s4 := fun o => (S5 o).2.2.2.2
  have HF := Lib.hid (fun o => Below.alloc (parse_fin zE none 0 0 HB1.out (zE_in _ _)).2 (by rw [put5_size]; omega) o)
  clear S5
  go_wp2_with fail
  exact bodyPost_ret (v := .tuple #[S3.eV zE (.slice none 0 0), .int .i64 (j : Int), .int .i64 c]) (by simp [results, Tryz.results227, go_sem, zE, s0, s1, s2, s3, s4]) rfl ⟨rfl, HF.out _⟩
set_option maxRecDepth 100000 in
set_option maxHeartbeats 2000000 in
theorem rix_no {w : World} {l : TL} {v : Value} (hT : TokL w w.heap.size v l) (_hll : l.length ≤ 1000000) (i : Nat) (_hi : i ≤ l.length) (d : Nat) (_hd : d ≤ 9223372036854775807) (h40 : d < 40) (C : BIR l v (i + 2) (d + 1) 1) (e : Ex) (n : Nat) (hr : binR l (i + 2) (d + 1) 1 = .ok e n) (hs : sgAt l n ≠ [93]) :
    Calls Tryz.prog 227 #[v, .int .i64 (i : Int), .int .i64 (d : Int)] w (PostP w (.bad n 7)) := by
  have h40' : ¬ (40 : Int) ≤ (d : Int) := by omega
  have C := Lib.hid C
  have qn : (sgAt l n == [93]) = false := beq_eq_false_iff_ne.2 hs
  have HT0 := Lib.hid (fun o => tokU hT (S3.bal w o))
  have Q := Lib.hid (fun a0 a1 a2 a3 a4 => R5.new w a0 a1 a2 a3 a4)
  clear hT
  go_enter Tryz.func227, Tryz.ntmps227
  try simp only [List.append_eq, List.cons_append, List.nil_append]
  go_wp2_with fail
  rw [show (i : Int) + 2 = ((i + 2 : Nat) : Int) by omega, show (d : Int) + 1 = ((d + 1 : Nat) : Int) by omega]
  have C1 := C.out (w.alloc zO) (HT0.out zO)
  rw [hr] at C1
  refine C1.mono ?_
  clear C1
  rintro E w1 ⟨A, k, c, rfl, ho, hE, hb⟩
  rw [S3.sz1] at hE
  have HB1 := Lib.hid hb
  have HT1 := Lib.hid (tokU (HT0.out _) hb)
  have HE1 := Lib.hid hE
  have HO1 := Lib.hid ho
  have X1 := Lib.hid (S3.EBox.new w1 e (.slice A k c))
  have hz1 := hb.size
  rw [S3.sz1] at hz1
  clear hb hE ho
  go_wp2_with fail
  have HT1e := Lib.hid (tokU HT1.out (S3.bal w1 (S3.eO e (.slice A k c))))
  refine (rsg_is HT1e.out qn (by simp) (by omega)).mono ?_
  rintro E w2 ⟨rfl, hb⟩
  have HB2 := Lib.hid (after (after HB1.out (S3.bal w1 (S3.eO e (.slice A k c)))) hb)
  have HT2 := Lib.hid (tokU HT1e.out hb)
  have X2 := X1.out.keep hb (by simp)
  obtain ⟨x0, x1, x2, x3, x4⟩ := X2
  have HE2 := Lib.hid (er_bel (er_bel HE1.out (S3.bal w1 (S3.eO e (.slice A k c)))) hb)
  have hz2 : w1.heap.size < w2.heap.size := by have := hb.size; rw [S3.sz1] at this; omega
  clear hb
  obtain ⟨z0, z1, z2, z3, z4, r0, r1, r2, r3, r4, y0, y1, y2, y3, y4⟩ := ((Q.out _ _ _ _ _).bel HB2.out).facts
  have hq1 := ((Q.out _ _ _ _ _).bel HB2.out).lt
  have HF := Lib.hid (parse_fin zE none 0 0 HB2.out (zE_in _ _)).2
  go_wp2_with fail
  exact bodyPost_ret (v := .tuple #[S3.eV zE (.slice none 0 0), .int .i64 (n : Int), .int .i64 7]) (by simp [results, Tryz.results227, go_sem, zE, r0, r1, r2, r3, r4]) rfl ⟨rfl, HF.out⟩
end Go.Proofs.YtoldhocdfkndbaaGreatDoor.E5

namespace Go.Proofs.YtoldhocdfkndbaaGreatDoor.E5
open Go Go.RowKit Go.Proofs.YtoldhocdfkndbaaGreatDoor

set_option maxRecDepth 100000 in
set_option maxHeartbeats 8000000 in
theorem rix_yes {w : World} {l : TL} {v : Value} (hT : TokL w w.heap.size v l) (_hll : l.length ≤ 1000000) (i : Nat) (_hi : i ≤ l.length) (d : Nat) (_hd : d ≤ 9223372036854775807) (h40 : d < 40) (C : BIR l v (i + 2) (d + 1) 1) (e : Ex) (n : Nat) (hr : binR l (i + 2) (d + 1) 1 = .ok e n) (hil : i < l.length) (hnl : n ≤ l.length) (hs : sgAt l n = [93]) (hx : S3.exB ⟨6, 0, 0, (tkAt l i).2, [e]⟩ = true) :
    Calls Tryz.prog 227 #[v, .int .i64 (i : Int), .int .i64 (d : Int)] w (PostP w (.ok ⟨6, 0, 0, (tkAt l i).2, [e]⟩ (n + 1))) := by
  have h40' : ¬ (40 : Int) ≤ (d : Int) := by omega
  have C := Lib.hid C
  have qn : (sgAt l n == [93]) = true := by rw [hs]; rfl
  obtain ⟨A, c, rfl⟩ := hT.val
  have HTW := Lib.hid hT
  have HT0 := Lib.hid (fun o => tokU hT (S3.bal w o))
  have Q := Lib.hid (fun a0 a1 a2 a3 a4 => R5.new w a0 a1 a2 a3 a4)
  clear hT
  go_enter Tryz.func227, Tryz.ntmps227
  try simp only [List.append_eq, List.cons_append, List.nil_append]
  go_wp2_with fail
  rw [show (i : Int) + 2 = ((i + 2 : Nat) : Int) by omega, show (d : Int) + 1 = ((d + 1 : Nat) : Int) by omega]
  have C1 := C.out (w.alloc zO) (HT0.out zO)
  rw [hr] at C1
  refine C1.mono ?_
  clear C1
  rintro E w1 ⟨A, k, c, rfl, ho, hE, hb⟩
  rw [S3.sz1] at hE
  have HB1 := Lib.hid hb
  have HT1 := Lib.hid (tokU (HT0.out _) hb)
  have HE1 := Lib.hid hE
  have HO1 := Lib.hid ho
  have X1 := Lib.hid (S3.EBox.new w1 e (.slice A k c))
  have hz1 := hb.size
  rw [S3.sz1] at hz1
  clear hb hE ho
  go_wp2_with fail
  have HT1e := Lib.hid (tokU HT1.out (S3.bal w1 (S3.eO e (.slice A k c))))
  refine (rsg_is HT1e.out qn (by simp) (by omega)).mono ?_
  rintro E w2 ⟨rfl, hb⟩
  have HB2 := Lib.hid (after (after HB1.out (S3.bal w1 (S3.eO e (.slice A k c)))) hb)
  have HT2 := Lib.hid (tokU HT1e.out hb)
  have X2 := X1.out.keep hb (by simp)
  obtain ⟨x0, x1, x2, x3, x4⟩ := X2
  have HE2 := Lib.hid (er_bel (er_bel HE1.out (S3.bal w1 (S3.eO e (.slice A k c)))) hb)
  have hz2 : w1.heap.size < w2.heap.size := by have := hb.size; rw [S3.sz1] at this; omega
  clear hb
  obtain ⟨_, htl, tb, og, ta, e9, htb, t0, t1, t2⟩ := HT2.out.at3 i (by omega)
  cases e9
  clear t0 t2
  have HO6 := Lib.hid (okE_op (k := 6) (s := (tkAt l i).2) (args := [e]) (by decide) (okI_small (Int.le_refl 0) (by decide)) htl)
  generalize (tkAt l i).2 = s at *
  have htw : tb < w.heap.size := by
    obtain ⟨_, _, tb', og', ta', e8, htb', _⟩ := HTW.out.at3 i (by omega)
    cases e8
    exact htb'
  have hbd := bal_dr2 w2
  have hS0 := Lib.hid (IxS.mk (W := w2) (tb := tb) (o := og + i * 3 + 1) (q := w1.heap.size) (s := s) (e := e) (va := .slice A k c) t1 ⟨x0, x1, x2, x3, x4⟩ |>.bel hbd htb hz2)
  have HEd := Lib.hid (er_bel HE2.out hbd)
  have HBd := Lib.hid (after HB2.out hbd)
  have hqt := fun W1 (h : Hid (IxS W1 tb (og + i * 3 + 1) w1.heap.size s e (.slice A k c))) => h.out.t
  have hq0 := fun W1 (h : Hid (IxS W1 tb (og + i * 3 + 1) w1.heap.size s e (.slice A k c))) => h.out.x.c0
  have hq1 := fun W1 (h : Hid (IxS W1 tb (og + i * 3 + 1) w1.heap.size s e (.slice A k c))) => h.out.x.c1
  have hq2 := fun W1 (h : Hid (IxS W1 tb (og + i * 3 + 1) w1.heap.size s e (.slice A k c))) => h.out.x.c2
  have hq3 := fun W1 (h : Hid (IxS W1 tb (og + i * 3 + 1) w1.heap.size s e (.slice A k c))) => h.out.x.c3
  have hq4 := fun W1 (h : Hid (IxS W1 tb (og + i * 3 + 1) w1.heap.size s e (.slice A k c))) => h.out.x.c4
  have qn1 : IntKind.i64.wrap ((n : Int) + 1) = (n : Int) + 1 := IntWalk.i64_in _ (by omega)
  have hil2 : (i : Int) < (l.length : Int) := by omega
  clear hbd t1 x0 x1 x2 x3 x4 HB2 HE2 HT2
  go_wp2_with fail
  refine wp_region_noPanic ?_
  refine wp_region_held_drew (S := fun W1 => Hid (IxS W1 tb (og + i * 3 + 1) w1.heap.size s e (.slice A k c))) (by kernel_rfl) hS0 (fun hHeld => ?_)
  clear hS0
  have HSD := Lib.hid (show w2.drew.heap.size = w2.heap.size from rfl)
  generalize w2.drew = wd at *
  refine wpAnyH_take (i := 0) (oi := { dst := some 38, op := Go.Op.move (Go.Operand.tmp 0), type := 68, pos := "ref.go:67", after := #[], guard := none }) (v := ?_) rfl (by as_aux_lemma => kernel_rfl) (by as_aux_lemma => kernel_rfl) (by as_aux_lemma => kernel_rfl) (fun _ _ _ h => h) (Or.inl ⟨by rfl, ?_⟩) hHeld ?_
  rotate_left
  · (intro w hSw; (try dsimp only at hSw); go_simp; try with_reducible rfl)
  try simp only [Act.put, List.setIfInBounds_toArray, List.set_cons_zero, List.set_cons_succ]
  refine wpAnyH_take (i := 1) (oi := { dst := some 39, op := Go.Op.move (Go.Operand.tmp 1), type := 3, pos := "ref.go:67", after := #[], guard := none }) (v := ?_) rfl (by as_aux_lemma => kernel_rfl) (by as_aux_lemma => kernel_rfl) (by as_aux_lemma => kernel_rfl) (fun _ _ _ h => h) (Or.inl ⟨by rfl, ?_⟩) hHeld ?_
  rotate_left
  · (intro w hSw; (try dsimp only at hSw); go_simp; try with_reducible rfl)
  try simp only [Act.put, List.setIfInBounds_toArray, List.set_cons_zero, List.set_cons_succ]
  refine wpAnyH_take (i := 2) (oi := { dst := some 40, op := Go.Op.indexAddr 68 (Go.Operand.tmp 38) (Go.Operand.tmp 39), type := 0, pos := "ref.go:67", after := #[{ on := 0, ground := Go.Ground.data }, { on := 1, ground := Go.Ground.data }], guard := none }) (v := ?_) rfl (by as_aux_lemma => kernel_rfl) (by as_aux_lemma => kernel_rfl) (by as_aux_lemma => kernel_rfl) (fun _ _ _ h => h) (Or.inl ⟨by rfl, ?_⟩) hHeld ?_
  rotate_left
  · (intro w hSw; (try dsimp only at hSw); go_simp; try with_reducible rfl)
  try simp only [Act.put, List.setIfInBounds_toArray, List.set_cons_zero, List.set_cons_succ]
  refine wpAnyH_take (i := 3) (oi := { dst := some 41, op := Go.Op.fieldAddr 129 (Go.Operand.tmp 40) 1, type := 0, pos := "ref.go:67", after := #[{ on := 2, ground := Go.Ground.data }], guard := none }) (v := ?_) rfl (by as_aux_lemma => kernel_rfl) (by as_aux_lemma => kernel_rfl) (by as_aux_lemma => kernel_rfl) (fun _ _ _ h => h) (Or.inl ⟨by rfl, ?_⟩) hHeld ?_
  rotate_left
  · (intro w hSw; (try dsimp only at hSw); go_simp; try with_reducible rfl)
  try simp only [Act.put, List.setIfInBounds_toArray, List.set_cons_zero, List.set_cons_succ]
  refine wpAnyH_take (i := 4) (oi := { dst := some 42, op := Go.Op.load 9 (Go.Operand.tmp 41), type := 9, pos := "ref.go:67", after := #[{ on := 3, ground := Go.Ground.data }], guard := none }) (v := ?_) rfl (by as_aux_lemma => kernel_rfl) (by as_aux_lemma => kernel_rfl) (by as_aux_lemma => kernel_rfl) (fun _ _ _ h => h) (Or.inl ⟨by rfl, ?_⟩) hHeld ?_
  rotate_left
  · (intro w hSw; (try dsimp only at hSw); go_simp; try with_reducible rfl)
  try simp only [Act.put, List.setIfInBounds_toArray, List.set_cons_zero, List.set_cons_succ]
  refine wpAnyH_take (i := 5) (oi := { dst := some 43, op := Go.Op.load 32 (Go.Operand.tmp 9), type := 32, pos := "ref.go:67", after := #[], guard := none }) (v := ?_) rfl (by as_aux_lemma => kernel_rfl) (by as_aux_lemma => kernel_rfl) (by as_aux_lemma => kernel_rfl) (fun _ _ _ h => h) (Or.inl ⟨by rfl, ?_⟩) hHeld ?_
  rotate_left
  · (intro w hSw; (try dsimp only at hSw); go_simp; try with_reducible rfl)
  try simp only [Act.put, List.setIfInBounds_toArray, List.set_cons_zero, List.set_cons_succ]
  refine wpAnyH_take (i := 8) (oi := { dst := some 46, op := Go.Op.move (Go.Operand.tmp 10), type := 3, pos := "ref.go:67", after := #[], guard := none }) (v := ?_) rfl (by as_aux_lemma => kernel_rfl) (by as_aux_lemma => kernel_rfl) (by as_aux_lemma => kernel_rfl) (fun _ _ _ h => h) (Or.inl ⟨by rfl, ?_⟩) hHeld ?_
  rotate_left
  · (intro w hSw; (try dsimp only at hSw); go_simp; try with_reducible rfl)
  try simp only [Act.put, List.setIfInBounds_toArray, List.set_cons_zero, List.set_cons_succ]
  refine wpAnyH_take (i := 9) (oi := { dst := some 47, op := Go.Op.binOp Go.BinOp.add 3 (Go.Operand.tmp 46) (Go.Operand.const (Go.Value.int Go.IntKind.i64 1)) 3, type := 3, pos := "ref.go:67", after := #[{ on := 8, ground := Go.Ground.data }], guard := none }) (v := ?_) rfl (by as_aux_lemma => kernel_rfl) (by as_aux_lemma => kernel_rfl) (by as_aux_lemma => kernel_rfl) (fun _ _ _ h => h) (Or.inl ⟨by rfl, ?_⟩) hHeld ?_
  rotate_left
  · (intro w hSw; (try dsimp only at hSw); go_simp; try with_reducible rfl)
  try simp only [Act.put, List.setIfInBounds_toArray, List.set_cons_zero, List.set_cons_succ]
  have hSa := Lib.hid (hHeld.out.bel (S3.bal wd (S3.eO e (.slice A k c))) (by rw [HSD.out]; omega) (by rw [HSD.out]; omega))
  have HE3 := Lib.hid (er_one HO1.out (n := w.heap.size + 1) (by have := HBd.out.size; rw [S3.sz1] at this; omega) HEd.out)
  have HB3 := Lib.hid (after HBd.out (S3.bal wd (S3.eO e (.slice A k c))))
  refine wpAnyH_ready (rs := [6]) (by as_aux_lemma => kernel_rfl) (List.cons_ne_nil _ _) ?_
  refine AllReadyH.cons (o := { dst := some 44, op := Go.Op.buildSlice 30 1 #[(0, Go.Operand.tmp 43)], type := 30, pos := "ref.go:67", after := #[{ on := 5, ground := Go.Ground.data }], guard := none }) rfl (fun K hK => ?_) AllReadyH.nil
  go_simp
  refine hK.out _ _ hSa (fun hHeld2 => ?_)
  clear hK K hHeld
  have hHeld := hHeld2
  clear hHeld2
  try simp only [Act.put, List.setIfInBounds_toArray, List.set_cons_zero, List.set_cons_succ]
  generalize hwe : wd.alloc (.cells #[.int .i64 e.kind, .int .i64 e.op, .int .i64 e.num, .string (S3.B e.name), .slice A k c] 32) = we at *
  have HWE := Lib.hid hwe
  clear hwe
  refine wpAnyH_ready (rs := [7]) (by as_aux_lemma => kernel_rfl) (List.cons_ne_nil _ _) ?_
  refine AllReadyH.cons (o := { dst := some 45, op := Go.Op.build 32 #[(0, Go.Operand.const (Go.Value.int Go.IntKind.i64 6)), (3, Go.Operand.tmp 42), (4, Go.Operand.tmp 44)], type := 32, pos := "ref.go:67", after := #[{ on := 4, ground := Go.Ground.data }, { on := 6, ground := Go.Ground.data }], guard := none }) rfl (fun K hK => ?_) AllReadyH.nil
  go_simp
  refine hK.out _ _ hHeld (fun _ => ?_)
  clear hK K
  try simp only [Act.put, List.setIfInBounds_toArray, List.set_cons_zero, List.set_cons_succ]
  refine wpAnyH_ready (rs := [10]) (by as_aux_lemma => kernel_rfl) (List.cons_ne_nil _ _) ?_
  refine AllReadyH.cons (o := { dst := some 48, op := Go.Op.call { callee := Go.Callee.value (Go.Operand.func 208), args := #[Go.Operand.tmp 45, Go.Operand.tmp 47], argTypes := #[32, 3] }, type := 40, pos := "ref.go:67", after := #[{ on := 7, ground := Go.Ground.data }, { on := 9, ground := Go.Ground.data }], guard := none }) rfl (fun K hK => ?_) AllReadyH.nil
  go_simp
  refine (rmade_yes ⟨6, 0, 0, s, [e]⟩ HO6.out hx _ 1 1 ((n : Int) + 1) (by omega) (by omega) we (er_in HE3.out (Nat.le_refl _))).mono ?_
  rintro E w4 ⟨rfl, hb⟩
  have HB4 := Lib.hid (after HB3.out hb)
  have HE4 := Lib.hid (er_bel HE3.out hb)
  have hS4 := Lib.hid (hHeld.out.bel hb (by rw [← HWE.out, S3.sz1, HSD.out]; omega) (by rw [← HWE.out, S3.sz1, HSD.out]; omega))
  clear hb
  go_wp2_with fail
  refine hK.out _ _ hS4 (fun hHeld2 => ?_)
  clear hK K hHeld
  have hHeld := hHeld2
  clear hHeld2
  try simp only [Act.put, List.setIfInBounds_toArray, List.set_cons_zero, List.set_cons_succ]
  refine wpAnyH_take (i := 11) (oi := { dst := some 49, op := Go.Op.extract (Go.Operand.tmp 48) 0, type := 32, pos := "ref.go:67", after := #[{ on := 10, ground := Go.Ground.data }], guard := none }) (v := ?_) rfl (by as_aux_lemma => kernel_rfl) (by as_aux_lemma => kernel_rfl) (by as_aux_lemma => kernel_rfl) (fun _ _ _ h => h) (Or.inl ⟨by rfl, ?_⟩) hHeld ?_
  rotate_left
  · (intro w hSw; (try dsimp only at hSw); go_simp; try with_reducible rfl)
  try simp only [Act.put, List.setIfInBounds_toArray, List.set_cons_zero, List.set_cons_succ]
  refine wpAnyH_take (i := 12) (oi := { dst := some 50, op := Go.Op.extract (Go.Operand.tmp 48) 1, type := 3, pos := "ref.go:67", after := #[{ on := 10, ground := Go.Ground.data }], guard := none }) (v := ?_) rfl (by as_aux_lemma => kernel_rfl) (by as_aux_lemma => kernel_rfl) (by as_aux_lemma => kernel_rfl) (fun _ _ _ h => h) (Or.inl ⟨by rfl, ?_⟩) hHeld ?_
  rotate_left
  · (intro w hSw; (try dsimp only at hSw); go_simp; try with_reducible rfl)
  try simp only [Act.put, List.setIfInBounds_toArray, List.set_cons_zero, List.set_cons_succ]
  refine wpAnyH_take (i := 13) (oi := { dst := some 51, op := Go.Op.extract (Go.Operand.tmp 48) 2, type := 39, pos := "ref.go:67", after := #[{ on := 10, ground := Go.Ground.data }], guard := none }) (v := ?_) rfl (by as_aux_lemma => kernel_rfl) (by as_aux_lemma => kernel_rfl) (by as_aux_lemma => kernel_rfl) (fun _ _ _ h => h) (Or.inl ⟨by rfl, ?_⟩) hHeld ?_
  rotate_left
  · (intro w hSw; (try dsimp only at hSw); go_simp; try with_reducible rfl)
  try simp only [Act.put, List.setIfInBounds_toArray, List.set_cons_zero, List.set_cons_succ]
  refine wpAnyH_ready (rs := [14]) (by as_aux_lemma => kernel_rfl) (List.cons_ne_nil _ _) ?_
  refine AllReadyH.cons (o := { dst := none, op := Go.Op.store 32 (Go.Operand.tmp 6) (Go.Operand.tmp 49), type := 0, pos := "ref.go:67", after := #[{ on := 11, ground := Go.Ground.data }, { on := 10, ground := Go.Ground.chain }, { on := 0, ground := Go.Ground.phase }, { on := 1, ground := Go.Ground.phase }, { on := 2, ground := Go.Ground.phase }, { on := 3, ground := Go.Ground.phase }, { on := 4, ground := Go.Ground.phase }, { on := 5, ground := Go.Ground.phase }, { on := 6, ground := Go.Ground.phase }, { on := 7, ground := Go.Ground.phase }, { on := 8, ground := Go.Ground.phase }, { on := 9, ground := Go.Ground.phase }, { on := 10, ground := Go.Ground.phase }, { on := 11, ground := Go.Ground.phase }, { on := 12, ground := Go.Ground.phase }, { on := 13, ground := Go.Ground.phase }], guard := none }) rfl (fun K hK => ?_) AllReadyH.nil
  obtain ⟨z0, z1, z2, z3, z4, r0, r1, r2, r3, r4, y0, y1, y2, y3, y4⟩ := ((Q.out _ _ _ _ _).bel HB4.out).facts
  have hq1 := ((Q.out _ _ _ _ _).bel HB4.out).lt
  have hSp := Lib.hid (hHeld.out.put (z := w.heap.size) (.int .i64 6) (.int .i64 0) (.int .i64 0) (.string (S3.B s)) (.slice (some ⟨wd.heap.size, 0, none⟩) 1 1) (by omega) (by omega))
  have HF := Lib.hid (parse_fin ⟨6, 0, 0, s, [e]⟩ (some ⟨wd.heap.size, 0, none⟩) 1 1 HB4.out HE4.out)
  go_wp2_with fail
  refine hK.out _ _ hSp (fun _ => ?_)
  clear hK K
  try simp only [Act.put, List.setIfInBounds_toArray, List.set_cons_zero, List.set_cons_succ]
  clear hHeld
  have hHeld := hSp
  refine wpAnyH_ready (rs := [15]) (by as_aux_lemma => kernel_rfl) (List.cons_ne_nil _ _) ?_
  refine AllReadyH.cons (o := { dst := some 7, op := Go.Op.assign (Go.Operand.tmp 50), type := 3, pos := "ref.go:67", after := #[{ on := 12, ground := Go.Ground.data }, { on := 14, ground := Go.Ground.chain }, { on := 0, ground := Go.Ground.phase }, { on := 1, ground := Go.Ground.phase }, { on := 2, ground := Go.Ground.phase }, { on := 3, ground := Go.Ground.phase }, { on := 4, ground := Go.Ground.phase }, { on := 5, ground := Go.Ground.phase }, { on := 6, ground := Go.Ground.phase }, { on := 7, ground := Go.Ground.phase }, { on := 8, ground := Go.Ground.phase }, { on := 9, ground := Go.Ground.phase }, { on := 10, ground := Go.Ground.phase }, { on := 11, ground := Go.Ground.phase }, { on := 12, ground := Go.Ground.phase }, { on := 13, ground := Go.Ground.phase }, { on := 14, ground := Go.Ground.phase }], guard := none }) rfl (fun K hK => ?_) AllReadyH.nil
  go_simp
  refine hK.out _ _ hHeld (fun _ => ?_)
  clear hK K
  try simp only [Act.put, List.setIfInBounds_toArray, List.set_cons_zero, List.set_cons_succ]
  refine wpAnyH_ready (rs := [16]) (by as_aux_lemma => kernel_rfl) (List.cons_ne_nil _ _) ?_
  refine AllReadyH.cons (o := { dst := some 8, op := Go.Op.assign (Go.Operand.tmp 51), type := 39, pos := "ref.go:67", after := #[{ on := 13, ground := Go.Ground.data }, { on := 15, ground := Go.Ground.chain }, { on := 0, ground := Go.Ground.phase }, { on := 1, ground := Go.Ground.phase }, { on := 2, ground := Go.Ground.phase }, { on := 3, ground := Go.Ground.phase }, { on := 4, ground := Go.Ground.phase }, { on := 5, ground := Go.Ground.phase }, { on := 6, ground := Go.Ground.phase }, { on := 7, ground := Go.Ground.phase }, { on := 8, ground := Go.Ground.phase }, { on := 9, ground := Go.Ground.phase }, { on := 10, ground := Go.Ground.phase }, { on := 11, ground := Go.Ground.phase }, { on := 12, ground := Go.Ground.phase }, { on := 13, ground := Go.Ground.phase }, { on := 14, ground := Go.Ground.phase }, { on := 15, ground := Go.Ground.phase }], guard := none }) rfl (fun K hK => ?_) AllReadyH.nil
  go_simp
  refine hK.out _ _ hHeld (fun _ => ?_)
  clear hK K
  try simp only [Act.put, List.setIfInBounds_toArray, List.set_cons_zero, List.set_cons_succ]
  refine wpAnyH_done (by kernel_rfl) ?_ _
  refine NoPanic.normal ?_
  go_wp2_with fail
  exact bodyPost_ret (v := .tuple #[S3.eV ⟨6, 0, 0, s, [e]⟩ (.slice (some ⟨wd.heap.size, 0, none⟩) 1 1), .int .i64 ((n : Int) + 1), .int .i64 0]) (by simp [results, Tryz.results227, go_sem, r0, r1, r2, r3, r4]) rfl ⟨_, 1, 1, by rw [show ((n + 1 : Nat) : Int) = (n : Int) + 1 by omega], HO6.out, HF.out.1, HF.out.2⟩
set_option maxRecDepth 100000 in
set_option maxHeartbeats 8000000 in
theorem rix_made {w : World} {l : TL} {v : Value} (hT : TokL w w.heap.size v l) (_hll : l.length ≤ 1000000) (i : Nat) (_hi : i ≤ l.length) (d : Nat) (_hd : d ≤ 9223372036854775807) (h40 : d < 40) (C : BIR l v (i + 2) (d + 1) 1) (e : Ex) (n : Nat) (hr : binR l (i + 2) (d + 1) 1 = .ok e n) (hil : i < l.length) (hnl : n ≤ l.length) (hs : sgAt l n = [93]) (hx : S3.exB ⟨6, 0, 0, (tkAt l i).2, [e]⟩ = false) :
    Calls Tryz.prog 227 #[v, .int .i64 (i : Int), .int .i64 (d : Int)] w (PostP w (.bad n 8)) := by
  have h40' : ¬ (40 : Int) ≤ (d : Int) := by omega
  have C := Lib.hid C
  have qn : (sgAt l n == [93]) = true := by rw [hs]; rfl
  obtain ⟨A, c, rfl⟩ := hT.val
  have HTW := Lib.hid hT
  have HT0 := Lib.hid (fun o => tokU hT (S3.bal w o))
  have Q := Lib.hid (fun a0 a1 a2 a3 a4 => R5.new w a0 a1 a2 a3 a4)
  clear hT
  go_enter Tryz.func227, Tryz.ntmps227
  try simp only [List.append_eq, List.cons_append, List.nil_append]
  go_wp2_with fail
  rw [show (i : Int) + 2 = ((i + 2 : Nat) : Int) by omega, show (d : Int) + 1 = ((d + 1 : Nat) : Int) by omega]
  have C1 := C.out (w.alloc zO) (HT0.out zO)
  rw [hr] at C1
  refine C1.mono ?_
  clear C1
  rintro E w1 ⟨A, k, c, rfl, ho, hE, hb⟩
  rw [S3.sz1] at hE
  have HB1 := Lib.hid hb
  have HT1 := Lib.hid (tokU (HT0.out _) hb)
  have HE1 := Lib.hid hE
  have HO1 := Lib.hid ho
  have X1 := Lib.hid (S3.EBox.new w1 e (.slice A k c))
  have hz1 := hb.size
  rw [S3.sz1] at hz1
  clear hb hE ho
  go_wp2_with fail
  have HT1e := Lib.hid (tokU HT1.out (S3.bal w1 (S3.eO e (.slice A k c))))
  refine (rsg_is HT1e.out qn (by simp) (by omega)).mono ?_
  rintro E w2 ⟨rfl, hb⟩
  have HB2 := Lib.hid (after (after HB1.out (S3.bal w1 (S3.eO e (.slice A k c)))) hb)
  have HT2 := Lib.hid (tokU HT1e.out hb)
  have X2 := X1.out.keep hb (by simp)
  obtain ⟨x0, x1, x2, x3, x4⟩ := X2
  have HE2 := Lib.hid (er_bel (er_bel HE1.out (S3.bal w1 (S3.eO e (.slice A k c)))) hb)
  have hz2 : w1.heap.size < w2.heap.size := by have := hb.size; rw [S3.sz1] at this; omega
  clear hb
  obtain ⟨_, htl, tb, og, ta, e9, htb, t0, t1, t2⟩ := HT2.out.at3 i (by omega)
  cases e9
  clear t0 t2
  have HO6 := Lib.hid (okE_op (k := 6) (s := (tkAt l i).2) (args := [e]) (by decide) (okI_small (Int.le_refl 0) (by decide)) htl)
  generalize (tkAt l i).2 = s at *
  have htw : tb < w.heap.size := by
    obtain ⟨_, _, tb', og', ta', e8, htb', _⟩ := HTW.out.at3 i (by omega)
    cases e8
    exact htb'
  have hbd := bal_dr2 w2
  have hS0 := Lib.hid (IxS.mk (W := w2) (tb := tb) (o := og + i * 3 + 1) (q := w1.heap.size) (s := s) (e := e) (va := .slice A k c) t1 ⟨x0, x1, x2, x3, x4⟩ |>.bel hbd htb hz2)
  have HEd := Lib.hid (er_bel HE2.out hbd)
  have HBd := Lib.hid (after HB2.out hbd)
  have hqt := fun W1 (h : Hid (IxS W1 tb (og + i * 3 + 1) w1.heap.size s e (.slice A k c))) => h.out.t
  have hq0 := fun W1 (h : Hid (IxS W1 tb (og + i * 3 + 1) w1.heap.size s e (.slice A k c))) => h.out.x.c0
  have hq1 := fun W1 (h : Hid (IxS W1 tb (og + i * 3 + 1) w1.heap.size s e (.slice A k c))) => h.out.x.c1
  have hq2 := fun W1 (h : Hid (IxS W1 tb (og + i * 3 + 1) w1.heap.size s e (.slice A k c))) => h.out.x.c2
  have hq3 := fun W1 (h : Hid (IxS W1 tb (og + i * 3 + 1) w1.heap.size s e (.slice A k c))) => h.out.x.c3
  have hq4 := fun W1 (h : Hid (IxS W1 tb (og + i * 3 + 1) w1.heap.size s e (.slice A k c))) => h.out.x.c4
  have qn1 : IntKind.i64.wrap ((n : Int) + 1) = (n : Int) + 1 := IntWalk.i64_in _ (by omega)
  have hil2 : (i : Int) < (l.length : Int) := by omega
  clear hbd t1 x0 x1 x2 x3 x4 HB2 HE2 HT2
  go_wp2_with fail
  refine wp_region_noPanic ?_
  refine wp_region_held_drew (S := fun W1 => Hid (IxS W1 tb (og + i * 3 + 1) w1.heap.size s e (.slice A k c))) (by kernel_rfl) hS0 (fun hHeld => ?_)
  clear hS0
  have HSD := Lib.hid (show w2.drew.heap.size = w2.heap.size from rfl)
  generalize w2.drew = wd at *
  refine wpAnyH_take (i := 0) (oi := { dst := some 38, op := Go.Op.move (Go.Operand.tmp 0), type := 68, pos := "ref.go:67", after := #[], guard := none }) (v := ?_) rfl (by as_aux_lemma => kernel_rfl) (by as_aux_lemma => kernel_rfl) (by as_aux_lemma => kernel_rfl) (fun _ _ _ h => h) (Or.inl ⟨by rfl, ?_⟩) hHeld ?_
  rotate_left
  · (intro w hSw; (try dsimp only at hSw); go_simp; try with_reducible rfl)
  try simp only [Act.put, List.setIfInBounds_toArray, List.set_cons_zero, List.set_cons_succ]
  refine wpAnyH_take (i := 1) (oi := { dst := some 39, op := Go.Op.move (Go.Operand.tmp 1), type := 3, pos := "ref.go:67", after := #[], guard := none }) (v := ?_) rfl (by as_aux_lemma => kernel_rfl) (by as_aux_lemma => kernel_rfl) (by as_aux_lemma => kernel_rfl) (fun _ _ _ h => h) (Or.inl ⟨by rfl, ?_⟩) hHeld ?_
  rotate_left
  · (intro w hSw; (try dsimp only at hSw); go_simp; try with_reducible rfl)
  try simp only [Act.put, List.setIfInBounds_toArray, List.set_cons_zero, List.set_cons_succ]
  refine wpAnyH_take (i := 2) (oi := { dst := some 40, op := Go.Op.indexAddr 68 (Go.Operand.tmp 38) (Go.Operand.tmp 39), type := 0, pos := "ref.go:67", after := #[{ on := 0, ground := Go.Ground.data }, { on := 1, ground := Go.Ground.data }], guard := none }) (v := ?_) rfl (by as_aux_lemma => kernel_rfl) (by as_aux_lemma => kernel_rfl) (by as_aux_lemma => kernel_rfl) (fun _ _ _ h => h) (Or.inl ⟨by rfl, ?_⟩) hHeld ?_
  rotate_left
  · (intro w hSw; (try dsimp only at hSw); go_simp; try with_reducible rfl)
  try simp only [Act.put, List.setIfInBounds_toArray, List.set_cons_zero, List.set_cons_succ]
  refine wpAnyH_take (i := 3) (oi := { dst := some 41, op := Go.Op.fieldAddr 129 (Go.Operand.tmp 40) 1, type := 0, pos := "ref.go:67", after := #[{ on := 2, ground := Go.Ground.data }], guard := none }) (v := ?_) rfl (by as_aux_lemma => kernel_rfl) (by as_aux_lemma => kernel_rfl) (by as_aux_lemma => kernel_rfl) (fun _ _ _ h => h) (Or.inl ⟨by rfl, ?_⟩) hHeld ?_
  rotate_left
  · (intro w hSw; (try dsimp only at hSw); go_simp; try with_reducible rfl)
  try simp only [Act.put, List.setIfInBounds_toArray, List.set_cons_zero, List.set_cons_succ]
  refine wpAnyH_take (i := 4) (oi := { dst := some 42, op := Go.Op.load 9 (Go.Operand.tmp 41), type := 9, pos := "ref.go:67", after := #[{ on := 3, ground := Go.Ground.data }], guard := none }) (v := ?_) rfl (by as_aux_lemma => kernel_rfl) (by as_aux_lemma => kernel_rfl) (by as_aux_lemma => kernel_rfl) (fun _ _ _ h => h) (Or.inl ⟨by rfl, ?_⟩) hHeld ?_
  rotate_left
  · (intro w hSw; (try dsimp only at hSw); go_simp; try with_reducible rfl)
  try simp only [Act.put, List.setIfInBounds_toArray, List.set_cons_zero, List.set_cons_succ]
  refine wpAnyH_take (i := 5) (oi := { dst := some 43, op := Go.Op.load 32 (Go.Operand.tmp 9), type := 32, pos := "ref.go:67", after := #[], guard := none }) (v := ?_) rfl (by as_aux_lemma => kernel_rfl) (by as_aux_lemma => kernel_rfl) (by as_aux_lemma => kernel_rfl) (fun _ _ _ h => h) (Or.inl ⟨by rfl, ?_⟩) hHeld ?_
  rotate_left
  · (intro w hSw; (try dsimp only at hSw); go_simp; try with_reducible rfl)
  try simp only [Act.put, List.setIfInBounds_toArray, List.set_cons_zero, List.set_cons_succ]
  refine wpAnyH_take (i := 8) (oi := { dst := some 46, op := Go.Op.move (Go.Operand.tmp 10), type := 3, pos := "ref.go:67", after := #[], guard := none }) (v := ?_) rfl (by as_aux_lemma => kernel_rfl) (by as_aux_lemma => kernel_rfl) (by as_aux_lemma => kernel_rfl) (fun _ _ _ h => h) (Or.inl ⟨by rfl, ?_⟩) hHeld ?_
  rotate_left
  · (intro w hSw; (try dsimp only at hSw); go_simp; try with_reducible rfl)
  try simp only [Act.put, List.setIfInBounds_toArray, List.set_cons_zero, List.set_cons_succ]
  refine wpAnyH_take (i := 9) (oi := { dst := some 47, op := Go.Op.binOp Go.BinOp.add 3 (Go.Operand.tmp 46) (Go.Operand.const (Go.Value.int Go.IntKind.i64 1)) 3, type := 3, pos := "ref.go:67", after := #[{ on := 8, ground := Go.Ground.data }], guard := none }) (v := ?_) rfl (by as_aux_lemma => kernel_rfl) (by as_aux_lemma => kernel_rfl) (by as_aux_lemma => kernel_rfl) (fun _ _ _ h => h) (Or.inl ⟨by rfl, ?_⟩) hHeld ?_
  rotate_left
  · (intro w hSw; (try dsimp only at hSw); go_simp; try with_reducible rfl)
  try simp only [Act.put, List.setIfInBounds_toArray, List.set_cons_zero, List.set_cons_succ]
  have hSa := Lib.hid (hHeld.out.bel (S3.bal wd (S3.eO e (.slice A k c))) (by rw [HSD.out]; omega) (by rw [HSD.out]; omega))
  have HE3 := Lib.hid (er_one HO1.out (n := w.heap.size + 1) (by have := HBd.out.size; rw [S3.sz1] at this; omega) HEd.out)
  have HB3 := Lib.hid (after HBd.out (S3.bal wd (S3.eO e (.slice A k c))))
  refine wpAnyH_ready (rs := [6]) (by as_aux_lemma => kernel_rfl) (List.cons_ne_nil _ _) ?_
  refine AllReadyH.cons (o := { dst := some 44, op := Go.Op.buildSlice 30 1 #[(0, Go.Operand.tmp 43)], type := 30, pos := "ref.go:67", after := #[{ on := 5, ground := Go.Ground.data }], guard := none }) rfl (fun K hK => ?_) AllReadyH.nil
  go_simp
  refine hK.out _ _ hSa (fun hHeld2 => ?_)
  clear hK K hHeld
  have hHeld := hHeld2
  clear hHeld2
  try simp only [Act.put, List.setIfInBounds_toArray, List.set_cons_zero, List.set_cons_succ]
  generalize hwe : wd.alloc (.cells #[.int .i64 e.kind, .int .i64 e.op, .int .i64 e.num, .string (S3.B e.name), .slice A k c] 32) = we at *
  have HWE := Lib.hid hwe
  clear hwe
  refine wpAnyH_ready (rs := [7]) (by as_aux_lemma => kernel_rfl) (List.cons_ne_nil _ _) ?_
  refine AllReadyH.cons (o := { dst := some 45, op := Go.Op.build 32 #[(0, Go.Operand.const (Go.Value.int Go.IntKind.i64 6)), (3, Go.Operand.tmp 42), (4, Go.Operand.tmp 44)], type := 32, pos := "ref.go:67", after := #[{ on := 4, ground := Go.Ground.data }, { on := 6, ground := Go.Ground.data }], guard := none }) rfl (fun K hK => ?_) AllReadyH.nil
  go_simp
  refine hK.out _ _ hHeld (fun _ => ?_)
  clear hK K
  try simp only [Act.put, List.setIfInBounds_toArray, List.set_cons_zero, List.set_cons_succ]
  refine wpAnyH_ready (rs := [10]) (by as_aux_lemma => kernel_rfl) (List.cons_ne_nil _ _) ?_
  refine AllReadyH.cons (o := { dst := some 48, op := Go.Op.call { callee := Go.Callee.value (Go.Operand.func 208), args := #[Go.Operand.tmp 45, Go.Operand.tmp 47], argTypes := #[32, 3] }, type := 40, pos := "ref.go:67", after := #[{ on := 7, ground := Go.Ground.data }, { on := 9, ground := Go.Ground.data }], guard := none }) rfl (fun K hK => ?_) AllReadyH.nil
  go_simp
  refine (rmade_no ⟨6, 0, 0, s, [e]⟩ HO6.out hx _ 1 1 ((n : Int) + 1) (by omega) (by omega) we (er_in HE3.out (Nat.le_refl _))).mono ?_
  rintro E w4 ⟨rfl, hb⟩
  have HB4 := Lib.hid (after HB3.out hb)
  have HE4 := Lib.hid (er_bel HE3.out hb)
  have hS4 := Lib.hid (hHeld.out.bel hb (by rw [← HWE.out, S3.sz1, HSD.out]; omega) (by rw [← HWE.out, S3.sz1, HSD.out]; omega))
  clear hb
  go_wp2_with fail
  refine hK.out _ _ hS4 (fun hHeld2 => ?_)
  clear hK K hHeld
  have hHeld := hHeld2
  clear hHeld2
  try simp only [Act.put, List.setIfInBounds_toArray, List.set_cons_zero, List.set_cons_succ]
  refine wpAnyH_take (i := 11) (oi := { dst := some 49, op := Go.Op.extract (Go.Operand.tmp 48) 0, type := 32, pos := "ref.go:67", after := #[{ on := 10, ground := Go.Ground.data }], guard := none }) (v := ?_) rfl (by as_aux_lemma => kernel_rfl) (by as_aux_lemma => kernel_rfl) (by as_aux_lemma => kernel_rfl) (fun _ _ _ h => h) (Or.inl ⟨by rfl, ?_⟩) hHeld ?_
  rotate_left
  · (intro w hSw; (try dsimp only at hSw); go_simp; try with_reducible rfl)
  try simp only [Act.put, List.setIfInBounds_toArray, List.set_cons_zero, List.set_cons_succ]
  refine wpAnyH_take (i := 12) (oi := { dst := some 50, op := Go.Op.extract (Go.Operand.tmp 48) 1, type := 3, pos := "ref.go:67", after := #[{ on := 10, ground := Go.Ground.data }], guard := none }) (v := ?_) rfl (by as_aux_lemma => kernel_rfl) (by as_aux_lemma => kernel_rfl) (by as_aux_lemma => kernel_rfl) (fun _ _ _ h => h) (Or.inl ⟨by rfl, ?_⟩) hHeld ?_
  rotate_left
  · (intro w hSw; (try dsimp only at hSw); go_simp; try with_reducible rfl)
  try simp only [Act.put, List.setIfInBounds_toArray, List.set_cons_zero, List.set_cons_succ]
  refine wpAnyH_take (i := 13) (oi := { dst := some 51, op := Go.Op.extract (Go.Operand.tmp 48) 2, type := 39, pos := "ref.go:67", after := #[{ on := 10, ground := Go.Ground.data }], guard := none }) (v := ?_) rfl (by as_aux_lemma => kernel_rfl) (by as_aux_lemma => kernel_rfl) (by as_aux_lemma => kernel_rfl) (fun _ _ _ h => h) (Or.inl ⟨by rfl, ?_⟩) hHeld ?_
  rotate_left
  · (intro w hSw; (try dsimp only at hSw); go_simp; try with_reducible rfl)
  try simp only [Act.put, List.setIfInBounds_toArray, List.set_cons_zero, List.set_cons_succ]
  refine wpAnyH_ready (rs := [14]) (by as_aux_lemma => kernel_rfl) (List.cons_ne_nil _ _) ?_
  refine AllReadyH.cons (o := { dst := none, op := Go.Op.store 32 (Go.Operand.tmp 6) (Go.Operand.tmp 49), type := 0, pos := "ref.go:67", after := #[{ on := 11, ground := Go.Ground.data }, { on := 10, ground := Go.Ground.chain }, { on := 0, ground := Go.Ground.phase }, { on := 1, ground := Go.Ground.phase }, { on := 2, ground := Go.Ground.phase }, { on := 3, ground := Go.Ground.phase }, { on := 4, ground := Go.Ground.phase }, { on := 5, ground := Go.Ground.phase }, { on := 6, ground := Go.Ground.phase }, { on := 7, ground := Go.Ground.phase }, { on := 8, ground := Go.Ground.phase }, { on := 9, ground := Go.Ground.phase }, { on := 10, ground := Go.Ground.phase }, { on := 11, ground := Go.Ground.phase }, { on := 12, ground := Go.Ground.phase }, { on := 13, ground := Go.Ground.phase }], guard := none }) rfl (fun K hK => ?_) AllReadyH.nil
  obtain ⟨z0, z1, z2, z3, z4, r0, r1, r2, r3, r4, y0, y1, y2, y3, y4⟩ := ((Q.out _ _ _ _ _).bel HB4.out).facts
  have hq1 := ((Q.out _ _ _ _ _).bel HB4.out).lt
  have hSp := Lib.hid (hHeld.out.put (z := w.heap.size) (.int .i64 0) (.int .i64 0) (.int .i64 0) (.string ⟨#[]⟩) (.slice none 0 0) (by omega) (by omega))
  have HF := Lib.hid (parse_fin zE none 0 0 HB4.out (zE_in _ _)).2
  go_wp2_with fail
  refine hK.out _ _ hSp (fun _ => ?_)
  clear hK K
  try simp only [Act.put, List.setIfInBounds_toArray, List.set_cons_zero, List.set_cons_succ]
  clear hHeld
  have hHeld := hSp
  refine wpAnyH_ready (rs := [15]) (by as_aux_lemma => kernel_rfl) (List.cons_ne_nil _ _) ?_
  refine AllReadyH.cons (o := { dst := some 7, op := Go.Op.assign (Go.Operand.tmp 50), type := 3, pos := "ref.go:67", after := #[{ on := 12, ground := Go.Ground.data }, { on := 14, ground := Go.Ground.chain }, { on := 0, ground := Go.Ground.phase }, { on := 1, ground := Go.Ground.phase }, { on := 2, ground := Go.Ground.phase }, { on := 3, ground := Go.Ground.phase }, { on := 4, ground := Go.Ground.phase }, { on := 5, ground := Go.Ground.phase }, { on := 6, ground := Go.Ground.phase }, { on := 7, ground := Go.Ground.phase }, { on := 8, ground := Go.Ground.phase }, { on := 9, ground := Go.Ground.phase }, { on := 10, ground := Go.Ground.phase }, { on := 11, ground := Go.Ground.phase }, { on := 12, ground := Go.Ground.phase }, { on := 13, ground := Go.Ground.phase }, { on := 14, ground := Go.Ground.phase }], guard := none }) rfl (fun K hK => ?_) AllReadyH.nil
  go_simp
  refine hK.out _ _ hHeld (fun _ => ?_)
  clear hK K
  try simp only [Act.put, List.setIfInBounds_toArray, List.set_cons_zero, List.set_cons_succ]
  refine wpAnyH_ready (rs := [16]) (by as_aux_lemma => kernel_rfl) (List.cons_ne_nil _ _) ?_
  refine AllReadyH.cons (o := { dst := some 8, op := Go.Op.assign (Go.Operand.tmp 51), type := 39, pos := "ref.go:67", after := #[{ on := 13, ground := Go.Ground.data }, { on := 15, ground := Go.Ground.chain }, { on := 0, ground := Go.Ground.phase }, { on := 1, ground := Go.Ground.phase }, { on := 2, ground := Go.Ground.phase }, { on := 3, ground := Go.Ground.phase }, { on := 4, ground := Go.Ground.phase }, { on := 5, ground := Go.Ground.phase }, { on := 6, ground := Go.Ground.phase }, { on := 7, ground := Go.Ground.phase }, { on := 8, ground := Go.Ground.phase }, { on := 9, ground := Go.Ground.phase }, { on := 10, ground := Go.Ground.phase }, { on := 11, ground := Go.Ground.phase }, { on := 12, ground := Go.Ground.phase }, { on := 13, ground := Go.Ground.phase }, { on := 14, ground := Go.Ground.phase }, { on := 15, ground := Go.Ground.phase }], guard := none }) rfl (fun K hK => ?_) AllReadyH.nil
  go_simp
  refine hK.out _ _ hHeld (fun _ => ?_)
  clear hK K
  try simp only [Act.put, List.setIfInBounds_toArray, List.set_cons_zero, List.set_cons_succ]
  refine wpAnyH_done (by kernel_rfl) ?_ _
  refine NoPanic.normal ?_
  go_wp2_with fail
  exact bodyPost_ret (v := .tuple #[S3.eV zE (.slice none 0 0), .int .i64 ((n : Int) + 1 - 1), .int .i64 8]) (by simp [results, Tryz.results227, go_sem, zE, r0, r1, r2, r3, r4]) rfl ⟨by rw [show (n : Int) + 1 - 1 = (n : Int) by omega], HF.out⟩
end Go.Proofs.YtoldhocdfkndbaaGreatDoor.E5

namespace Go.Proofs.YtoldhocdfkndbaaGreatDoor.E5
open Go Go.RowKit Go.Proofs.YtoldhocdfkndbaaGreatDoor

theorem okE4 {op : Int} {e : Ex} (h : op = 14 ∨ op = 15) : S3.OkE ⟨4, op, 0, [], [e]⟩ := by
  rcases h with rfl | rfl
  · exact okE_op (by decide) (okI_small (by decide) (by decide)) (by decide)
  · exact okE_op (by decide) (okI_small (by decide) (by decide)) (by decide)
set_option maxRecDepth 100000 in
set_option maxHeartbeats 2000000 in
theorem rns_none {w : World} {l : TL} {v : Value} (hT : TokL w w.heap.size v l) (_hll : l.length ≤ 1000000) (i : Nat) (_hi : i ≤ l.length) (d : Nat) (_hd : d ≤ 9223372036854775807) (h1 : sgAt l i ≠ [45]) (h2 : sgAt l i ≠ [33]) (h3 : sgAt l i ≠ [40]) :
    Calls Tryz.prog 228 #[v, .int .i64 (i : Int), .int .i64 (d : Int)] w (PostP w (.bad i 7)) := by
  have q1 : (sgAt l i == [45]) = false := beq_eq_false_iff_ne.2 h1
  have q2 : (sgAt l i == [33]) = false := beq_eq_false_iff_ne.2 h2
  have q3 : (sgAt l i == [40]) = false := beq_eq_false_iff_ne.2 h3
  have HT0 := Lib.hid (fun o => tokU hT (S3.bal w o))
  have Q := Lib.hid (fun a0 a1 a2 a3 a4 => R5.new w a0 a1 a2 a3 a4)
  clear hT
  go_enter Tryz.func228, Tryz.ntmps228
  try simp only [List.append_eq, List.cons_append, List.nil_append]
  go_wp2_with fail
  refine (rsg_is (HT0.out _) q1 (by simp) (by omega)).mono ?_
  rintro E w1 ⟨rfl, hb⟩
  have HB1 := Lib.hid (hb)
  have HT1 := Lib.hid (tokU (HT0.out _) hb)
  clear hb
  go_wp2_with fail
  refine (rsg_is HT1.out q2 (by simp) (by omega)).mono ?_
  rintro E w2 ⟨rfl, hb⟩
  have HB2 := Lib.hid (after HB1.out hb)
  have HT2 := Lib.hid (tokU HT1.out hb)
  clear hb
  go_wp2_with fail
  refine (rsg_is HT2.out q3 (by simp) (by omega)).mono ?_
  rintro E w3 ⟨rfl, hb⟩
  have HB3 := Lib.hid (after HB2.out hb)
  have HT3 := Lib.hid (tokU HT2.out hb)
  clear hb
  obtain ⟨z0, z1, z2, z3, z4, r0, r1, r2, r3, r4, y0, y1, y2, y3, y4⟩ := ((Q.out _ _ _ _ _).bel HB3.out).facts
  have hq1 := ((Q.out _ _ _ _ _).bel HB3.out).lt
  have HF := Lib.hid (parse_fin zE none 0 0 HB3.out (zE_in _ _)).2
  go_wp2_with fail
  exact bodyPost_ret (v := .tuple #[S3.eV zE (.slice none 0 0), .int .i64 (i : Int), .int .i64 7]) (by simp [results, Tryz.results228, go_sem, zE, r0, r1, r2, r3, r4]) rfl ⟨rfl, HF.out⟩
set_option maxRecDepth 100000 in
set_option maxHeartbeats 2000000 in
theorem rns_deep_min {w : World} {l : TL} {v : Value} (hT : TokL w w.heap.size v l) (_hll : l.length ≤ 1000000) (i : Nat) (_hi : i ≤ l.length) (d : Nat) (_hd : d ≤ 9223372036854775807) (hs : sgAt l i = [45]) (h40 : 40 ≤ d) :
    Calls Tryz.prog 228 #[v, .int .i64 (i : Int), .int .i64 (d : Int)] w (PostP w (.bad i 8)) := by
  have q1 : (sgAt l i == [45]) = true := by rw [hs]; rfl
  have q2 : (sgAt l i == [33]) = false := by rw [hs]; rfl
  have h40' : (40 : Int) ≤ (d : Int) := by omega
  have HT0 := Lib.hid (fun o => tokU hT (S3.bal w o))
  have Q := Lib.hid (fun a0 a1 a2 a3 a4 => R5.new w a0 a1 a2 a3 a4)
  clear hT
  go_enter Tryz.func228, Tryz.ntmps228
  try simp only [List.append_eq, List.cons_append, List.nil_append]
  go_wp2_with fail
  refine (rsg_is (HT0.out _) q1 (by simp) (by omega)).mono ?_
  rintro E w1 ⟨rfl, hb⟩
  have HB1 := Lib.hid (hb)
  have HT1 := Lib.hid (tokU (HT0.out _) hb)
  clear hb
  go_wp2_with fail
  refine (rsg_is HT1.out q2 (by simp) (by omega)).mono ?_
  rintro E w2 ⟨rfl, hb⟩
  have HB2 := Lib.hid (after HB1.out hb)
  have HT2 := Lib.hid (tokU HT1.out hb)
  clear hb
  obtain ⟨z0, z1, z2, z3, z4, r0, r1, r2, r3, r4, y0, y1, y2, y3, y4⟩ := ((Q.out _ _ _ _ _).bel HB2.out).facts
  have hq1 := ((Q.out _ _ _ _ _).bel HB2.out).lt
  have HF := Lib.hid (parse_fin zE none 0 0 HB2.out (zE_in _ _)).2
  go_wp2_with fail
  exact bodyPost_ret (v := .tuple #[S3.eV zE (.slice none 0 0), .int .i64 (i : Int), .int .i64 8]) (by simp [results, Tryz.results228, go_sem, zE, r0, r1, r2, r3, r4]) rfl ⟨rfl, HF.out⟩
set_option maxRecDepth 100000 in
set_option maxHeartbeats 2000000 in
theorem rns_deep_not {w : World} {l : TL} {v : Value} (hT : TokL w w.heap.size v l) (_hll : l.length ≤ 1000000) (i : Nat) (_hi : i ≤ l.length) (d : Nat) (_hd : d ≤ 9223372036854775807) (hs : sgAt l i = [33]) (h40 : 40 ≤ d) :
    Calls Tryz.prog 228 #[v, .int .i64 (i : Int), .int .i64 (d : Int)] w (PostP w (.bad i 8)) := by
  have q1 : (sgAt l i == [45]) = false := by rw [hs]; rfl
  have q2 : (sgAt l i == [33]) = true := by rw [hs]; rfl
  have h40' : (40 : Int) ≤ (d : Int) := by omega
  have HT0 := Lib.hid (fun o => tokU hT (S3.bal w o))
  have Q := Lib.hid (fun a0 a1 a2 a3 a4 => R5.new w a0 a1 a2 a3 a4)
  clear hT
  go_enter Tryz.func228, Tryz.ntmps228
  try simp only [List.append_eq, List.cons_append, List.nil_append]
  go_wp2_with fail
  refine (rsg_is (HT0.out _) q1 (by simp) (by omega)).mono ?_
  rintro E w1 ⟨rfl, hb⟩
  have HB1 := Lib.hid (hb)
  have HT1 := Lib.hid (tokU (HT0.out _) hb)
  clear hb
  go_wp2_with fail
  refine (rsg_is HT1.out q2 (by simp) (by omega)).mono ?_
  rintro E w2 ⟨rfl, hb⟩
  have HB2 := Lib.hid (after HB1.out hb)
  have HT2 := Lib.hid (tokU HT1.out hb)
  clear hb
  obtain ⟨z0, z1, z2, z3, z4, r0, r1, r2, r3, r4, y0, y1, y2, y3, y4⟩ := ((Q.out _ _ _ _ _).bel HB2.out).facts
  have hq1 := ((Q.out _ _ _ _ _).bel HB2.out).lt
  have HF := Lib.hid (parse_fin zE none 0 0 HB2.out (zE_in _ _)).2
  go_wp2_with fail
  exact bodyPost_ret (v := .tuple #[S3.eV zE (.slice none 0 0), .int .i64 (i : Int), .int .i64 8]) (by simp [results, Tryz.results228, go_sem, zE, r0, r1, r2, r3, r4]) rfl ⟨rfl, HF.out⟩
set_option maxRecDepth 100000 in
set_option maxHeartbeats 2000000 in
theorem rns_deep_par {w : World} {l : TL} {v : Value} (hT : TokL w w.heap.size v l) (_hll : l.length ≤ 1000000) (i : Nat) (_hi : i ≤ l.length) (d : Nat) (_hd : d ≤ 9223372036854775807) (hs : sgAt l i = [40]) (h40 : 40 ≤ d) :
    Calls Tryz.prog 228 #[v, .int .i64 (i : Int), .int .i64 (d : Int)] w (PostP w (.bad i 8)) := by
  have q1 : (sgAt l i == [45]) = false := by rw [hs]; rfl
  have q2 : (sgAt l i == [33]) = false := by rw [hs]; rfl
  have q3 : (sgAt l i == [40]) = true := by rw [hs]; rfl
  have h40' : (40 : Int) ≤ (d : Int) := by omega
  have HT0 := Lib.hid (fun o => tokU hT (S3.bal w o))
  have Q := Lib.hid (fun a0 a1 a2 a3 a4 => R5.new w a0 a1 a2 a3 a4)
  clear hT
  go_enter Tryz.func228, Tryz.ntmps228
  try simp only [List.append_eq, List.cons_append, List.nil_append]
  go_wp2_with fail
  refine (rsg_is (HT0.out _) q1 (by simp) (by omega)).mono ?_
  rintro E w1 ⟨rfl, hb⟩
  have HB1 := Lib.hid (hb)
  have HT1 := Lib.hid (tokU (HT0.out _) hb)
  clear hb
  go_wp2_with fail
  refine (rsg_is HT1.out q2 (by simp) (by omega)).mono ?_
  rintro E w2 ⟨rfl, hb⟩
  have HB2 := Lib.hid (after HB1.out hb)
  have HT2 := Lib.hid (tokU HT1.out hb)
  clear hb
  go_wp2_with fail
  refine (rsg_is HT2.out q3 (by simp) (by omega)).mono ?_
  rintro E w3 ⟨rfl, hb⟩
  have HB3 := Lib.hid (after HB2.out hb)
  have HT3 := Lib.hid (tokU HT2.out hb)
  clear hb
  obtain ⟨z0, z1, z2, z3, z4, r0, r1, r2, r3, r4, y0, y1, y2, y3, y4⟩ := ((Q.out _ _ _ _ _).bel HB3.out).facts
  have hq1 := ((Q.out _ _ _ _ _).bel HB3.out).lt
  have HF := Lib.hid (parse_fin zE none 0 0 HB3.out (zE_in _ _)).2
  go_wp2_with fail
  exact bodyPost_ret (v := .tuple #[S3.eV zE (.slice none 0 0), .int .i64 (i : Int), .int .i64 8]) (by simp [results, Tryz.results228, go_sem, zE, r0, r1, r2, r3, r4]) rfl ⟨rfl, HF.out⟩
set_option maxRecDepth 100000 in
set_option maxHeartbeats 2000000 in
theorem rns_bad_min {w : World} {l : TL} {v : Value} (hT : TokL w w.heap.size v l) (_hll : l.length ≤ 1000000) (i : Nat) (_hi : i ≤ l.length) (d : Nat) (_hd : d ≤ 9223372036854775807) (hs : sgAt l i = [45]) (h40 : d < 40) (C : OPR l v (i + 1) (d + 1)) (j : Nat) (c : Int) (hc : c ≠ 0) (hr : opdR l (i + 1) (d + 1) = .bad j c) :
    Calls Tryz.prog 228 #[v, .int .i64 (i : Int), .int .i64 (d : Int)] w (PostP w (.bad j c)) := by
  have q1 : (sgAt l i == [45]) = true := by rw [hs]; rfl
  have q2 : (sgAt l i == [33]) = false := by rw [hs]; rfl
  have h40' : ¬ (40 : Int) ≤ (d : Int) := by omega
  have C := Lib.hid C
  have HT0 := Lib.hid (fun o => tokU hT (S3.bal w o))
  have Q := Lib.hid (fun a0 a1 a2 a3 a4 => R5.new w a0 a1 a2 a3 a4)
  clear hT
  go_enter Tryz.func228, Tryz.ntmps228
  try simp only [List.append_eq, List.cons_append, List.nil_append]
  go_wp2_with fail
  refine (rsg_is (HT0.out _) q1 (by simp) (by omega)).mono ?_
  rintro E w1 ⟨rfl, hb⟩
  have HB1 := Lib.hid (hb)
  have HT1 := Lib.hid (tokU (HT0.out _) hb)
  clear hb
  go_wp2_with fail
  refine (rsg_is HT1.out q2 (by simp) (by omega)).mono ?_
  rintro E w2 ⟨rfl, hb⟩
  have HB2 := Lib.hid (after HB1.out hb)
  have HT2 := Lib.hid (tokU HT1.out hb)
  clear hb
  go_wp2_with fail
  rw [show (i : Int) + 1 = ((i + 1 : Nat) : Int) by omega, show (d : Int) + 1 = ((d + 1 : Nat) : Int) by omega]
  have C1 := C.out w2 HT2.out
  rw [hr] at C1
  refine C1.mono ?_
  clear C1
  rintro E w8 ⟨rfl, hb⟩
  have HB8 := Lib.hid (after HB2.out hb)
  have hq : (c == 0) = false := beq_eq_false_iff_ne.2 hc
  clear hb
  obtain ⟨z0, z1, z2, z3, z4, r0, r1, r2, r3, r4, y0, y1, y2, y3, y4⟩ := ((Q.out _ _ _ _ _).bel HB8.out).facts
  have hq1 := ((Q.out _ _ _ _ _).bel HB8.out).lt
  have S5 := fun o => put5_al ((Q.out _ _ _ _ _).bel HB8.out) (.int .i64 0) (.int .i64 0) (.int .i64 0) (.string ⟨#[]⟩) (.slice none 0 0) o
  have s0 := fun o => (S5 o).1
  have s1 := fun o => (S5 o).2.1
  have s2 := fun o => (S5 o).2.2.1
  have s3 := fun o => (S5 o).2.2.2.1
  have s4 := fun o => (S5 o).2.2.2.2
  have HF := Lib.hid (fun o => Below.alloc (parse_fin zE none 0 0 HB8.out (zE_in _ _)).2 (by rw [put5_size]; omega) o)
  clear S5
  go_wp2_with fail
  exact bodyPost_ret (v := .tuple #[S3.eV zE (.slice none 0 0), .int .i64 (j : Int), .int .i64 c]) (by simp [results, Tryz.results228, go_sem, zE, s0, s1, s2, s3, s4]) rfl ⟨rfl, HF.out _⟩
set_option maxRecDepth 100000 in
set_option maxHeartbeats 2000000 in
theorem rns_yes_min {w : World} {l : TL} {v : Value} (hT : TokL w w.heap.size v l) (_hll : l.length ≤ 1000000) (i : Nat) (_hi : i ≤ l.length) (d : Nat) (_hd : d ≤ 9223372036854775807) (hs : sgAt l i = [45]) (h40 : d < 40) (C : OPR l v (i + 1) (d + 1)) (e : Ex) (n : Nat) (hn1 : 1 ≤ n) (hnl : n ≤ l.length) (hr : opdR l (i + 1) (d + 1) = .ok e n) (hx : S3.exB ⟨4, 14, 0, [], [e]⟩ = true) :
    Calls Tryz.prog 228 #[v, .int .i64 (i : Int), .int .i64 (d : Int)] w (PostP w (.ok ⟨4, 14, 0, [], [e]⟩ n)) := by
  have q1 : (sgAt l i == [45]) = true := by rw [hs]; rfl
  have q2 : (sgAt l i == [33]) = false := by rw [hs]; rfl
  have h40' : ¬ (40 : Int) ≤ (d : Int) := by omega
  have C := Lib.hid C
  have HOO := Lib.hid (okE4 (op := 14) (e := e) (by decide))
  have HT0 := Lib.hid (fun o => tokU hT (S3.bal w o))
  have Q := Lib.hid (fun a0 a1 a2 a3 a4 => R5.new w a0 a1 a2 a3 a4)
  clear hT
  go_enter Tryz.func228, Tryz.ntmps228
  try simp only [List.append_eq, List.cons_append, List.nil_append]
  go_wp2_with fail
  refine (rsg_is (HT0.out _) q1 (by simp) (by omega)).mono ?_
  rintro E w1 ⟨rfl, hb⟩
  have HB1 := Lib.hid (hb)
  have HT1 := Lib.hid (tokU (HT0.out _) hb)
  clear hb
  go_wp2_with fail
  refine (rsg_is HT1.out q2 (by simp) (by omega)).mono ?_
  rintro E w2 ⟨rfl, hb⟩
  have HB2 := Lib.hid (after HB1.out hb)
  have HT2 := Lib.hid (tokU HT1.out hb)
  clear hb
  go_wp2_with fail
  rw [show (i : Int) + 1 = ((i + 1 : Nat) : Int) by omega, show (d : Int) + 1 = ((d + 1 : Nat) : Int) by omega]
  have C1 := C.out w2 HT2.out
  rw [hr] at C1
  refine C1.mono ?_
  clear C1
  rintro E w8 ⟨A, k, c, rfl, ho, hE, hb⟩
  have HB8 := Lib.hid (after HB2.out hb)
  have HT8 := Lib.hid (tokU HT2.out hb)
  have hL := HB2.out.size
  rw [S3.sz1] at hL
  have HE8 := Lib.hid (er_mono hE (show w.heap.size + 1 ≤ w2.heap.size by omega) (Nat.le_refl _))
  have HO8 := Lib.hid ho
  have hz8 := HB8.out.size
  rw [S3.sz1] at hz8
  clear hb hE ho
  go_wp2_with fail
  have HE9 := er_one HO8.out (n := w.heap.size + 1) (by rw [S3.sz1]; omega) (er_bel HE8.out (S3.bal w8 (S3.eO e (.slice A k c))))
  have HB9 := Lib.hid (after (after HB8.out (S3.bal w8 (S3.eO e (.slice A k c)))) (S3.bal (w8.alloc (S3.eO e (.slice A k c))) (S3.eO e (.slice A k c))))
  rw [show (w8.alloc (S3.eO e (.slice A k c))).heap.size = w8.heap.size + 1 from S3.sz1 _ _] at HE9
  have HE9 := Lib.hid HE9
  generalize (w8.alloc (S3.eO e (.slice A k c))).alloc (S3.eO e (.slice A k c)) = w9 at *
  refine (rmade_yes ⟨4, 14, 0, [], [e]⟩ HOO.out hx _ 1 1 (n : Int) (by omega) (by omega) w9 (er_in HE9.out (Nat.le_refl _))).mono ?_
  rintro E w10 ⟨rfl, hb⟩
  have HB10 := Lib.hid (after HB9.out hb)
  have HE10 := Lib.hid (er_bel HE9.out hb)
  clear hb
  obtain ⟨z0, z1, z2, z3, z4, r0, r1, r2, r3, r4, y0, y1, y2, y3, y4⟩ := ((Q.out _ _ _ _ _).bel HB10.out).facts
  have hq1 := ((Q.out _ _ _ _ _).bel HB10.out).lt
  have HF := Lib.hid (parse_fin ⟨4, 14, 0, [], [e]⟩ (some ⟨w8.heap.size + 1, 0, none⟩) 1 1 HB10.out HE10.out)
  go_wp2_with fail
  exact bodyPost_ret (v := .tuple #[S3.eV ⟨4, 14, 0, [], [e]⟩ (.slice (some ⟨w8.heap.size + 1, 0, none⟩) 1 1), .int .i64 (n : Int), .int .i64 0]) (by simp [results, Tryz.results228, go_sem, r0, r1, r2, r3, r4]) rfl ⟨(some ⟨w8.heap.size + 1, 0, none⟩), 1, 1, rfl, HOO.out, HF.out.1, HF.out.2⟩
set_option maxRecDepth 100000 in
set_option maxHeartbeats 2000000 in
theorem rns_made_min {w : World} {l : TL} {v : Value} (hT : TokL w w.heap.size v l) (_hll : l.length ≤ 1000000) (i : Nat) (_hi : i ≤ l.length) (d : Nat) (_hd : d ≤ 9223372036854775807) (hs : sgAt l i = [45]) (h40 : d < 40) (C : OPR l v (i + 1) (d + 1)) (e : Ex) (n : Nat) (hn1 : 1 ≤ n) (hnl : n ≤ l.length) (hr : opdR l (i + 1) (d + 1) = .ok e n) (hx : S3.exB ⟨4, 14, 0, [], [e]⟩ = false) :
    Calls Tryz.prog 228 #[v, .int .i64 (i : Int), .int .i64 (d : Int)] w (PostP w (.bad (n - 1) 8)) := by
  have q1 : (sgAt l i == [45]) = true := by rw [hs]; rfl
  have q2 : (sgAt l i == [33]) = false := by rw [hs]; rfl
  have h40' : ¬ (40 : Int) ≤ (d : Int) := by omega
  have C := Lib.hid C
  have HOO := Lib.hid (okE4 (op := 14) (e := e) (by decide))
  have HT0 := Lib.hid (fun o => tokU hT (S3.bal w o))
  have Q := Lib.hid (fun a0 a1 a2 a3 a4 => R5.new w a0 a1 a2 a3 a4)
  clear hT
  go_enter Tryz.func228, Tryz.ntmps228
  try simp only [List.append_eq, List.cons_append, List.nil_append]
  go_wp2_with fail
  refine (rsg_is (HT0.out _) q1 (by simp) (by omega)).mono ?_
  rintro E w1 ⟨rfl, hb⟩
  have HB1 := Lib.hid (hb)
  have HT1 := Lib.hid (tokU (HT0.out _) hb)
  clear hb
  go_wp2_with fail
  refine (rsg_is HT1.out q2 (by simp) (by omega)).mono ?_
  rintro E w2 ⟨rfl, hb⟩
  have HB2 := Lib.hid (after HB1.out hb)
  have HT2 := Lib.hid (tokU HT1.out hb)
  clear hb
  go_wp2_with fail
  rw [show (i : Int) + 1 = ((i + 1 : Nat) : Int) by omega, show (d : Int) + 1 = ((d + 1 : Nat) : Int) by omega]
  have C1 := C.out w2 HT2.out
  rw [hr] at C1
  refine C1.mono ?_
  clear C1
  rintro E w8 ⟨A, k, c, rfl, ho, hE, hb⟩
  have HB8 := Lib.hid (after HB2.out hb)
  have HT8 := Lib.hid (tokU HT2.out hb)
  have hL := HB2.out.size
  rw [S3.sz1] at hL
  have HE8 := Lib.hid (er_mono hE (show w.heap.size + 1 ≤ w2.heap.size by omega) (Nat.le_refl _))
  have HO8 := Lib.hid ho
  have hz8 := HB8.out.size
  rw [S3.sz1] at hz8
  clear hb hE ho
  go_wp2_with fail
  have HE9 := er_one HO8.out (n := w.heap.size + 1) (by rw [S3.sz1]; omega) (er_bel HE8.out (S3.bal w8 (S3.eO e (.slice A k c))))
  have HB9 := Lib.hid (after (after HB8.out (S3.bal w8 (S3.eO e (.slice A k c)))) (S3.bal (w8.alloc (S3.eO e (.slice A k c))) (S3.eO e (.slice A k c))))
  rw [show (w8.alloc (S3.eO e (.slice A k c))).heap.size = w8.heap.size + 1 from S3.sz1 _ _] at HE9
  have HE9 := Lib.hid HE9
  generalize (w8.alloc (S3.eO e (.slice A k c))).alloc (S3.eO e (.slice A k c)) = w9 at *
  refine (rmade_no ⟨4, 14, 0, [], [e]⟩ HOO.out hx _ 1 1 (n : Int) (by omega) (by omega) w9 (er_in HE9.out (Nat.le_refl _))).mono ?_
  rintro E w10 ⟨rfl, hb⟩
  have HB10 := Lib.hid (after HB9.out hb)
  have HE10 := Lib.hid (er_bel HE9.out hb)
  clear hb
  obtain ⟨z0, z1, z2, z3, z4, r0, r1, r2, r3, r4, y0, y1, y2, y3, y4⟩ := ((Q.out _ _ _ _ _).bel HB10.out).facts
  have hq1 := ((Q.out _ _ _ _ _).bel HB10.out).lt
  have HF := Lib.hid (parse_fin zE none 0 0 HB10.out (zE_in _ _)).2
  go_wp2_with fail
  exact bodyPost_ret (v := .tuple #[S3.eV zE (.slice none 0 0), .int .i64 ((n : Int) - 1), .int .i64 8]) (by simp [results, Tryz.results228, go_sem, zE, r0, r1, r2, r3, r4]) rfl ⟨by rw [show ((n - 1 : Nat) : Int) = (n : Int) - 1 by omega], HF.out⟩
set_option maxRecDepth 100000 in
set_option maxHeartbeats 2000000 in
theorem rns_bad_not {w : World} {l : TL} {v : Value} (hT : TokL w w.heap.size v l) (_hll : l.length ≤ 1000000) (i : Nat) (_hi : i ≤ l.length) (d : Nat) (_hd : d ≤ 9223372036854775807) (hs : sgAt l i = [33]) (h40 : d < 40) (C : OPR l v (i + 1) (d + 1)) (j : Nat) (c : Int) (hc : c ≠ 0) (hr : opdR l (i + 1) (d + 1) = .bad j c) :
    Calls Tryz.prog 228 #[v, .int .i64 (i : Int), .int .i64 (d : Int)] w (PostP w (.bad j c)) := by
  have q1 : (sgAt l i == [45]) = false := by rw [hs]; rfl
  have q2 : (sgAt l i == [33]) = true := by rw [hs]; rfl
  have h40' : ¬ (40 : Int) ≤ (d : Int) := by omega
  have C := Lib.hid C
  have HT0 := Lib.hid (fun o => tokU hT (S3.bal w o))
  have Q := Lib.hid (fun a0 a1 a2 a3 a4 => R5.new w a0 a1 a2 a3 a4)
  clear hT
  go_enter Tryz.func228, Tryz.ntmps228
  try simp only [List.append_eq, List.cons_append, List.nil_append]
  go_wp2_with fail
  refine (rsg_is (HT0.out _) q1 (by simp) (by omega)).mono ?_
  rintro E w1 ⟨rfl, hb⟩
  have HB1 := Lib.hid (hb)
  have HT1 := Lib.hid (tokU (HT0.out _) hb)
  clear hb
  go_wp2_with fail
  refine (rsg_is HT1.out q2 (by simp) (by omega)).mono ?_
  rintro E w2 ⟨rfl, hb⟩
  have HB2 := Lib.hid (after HB1.out hb)
  have HT2 := Lib.hid (tokU HT1.out hb)
  clear hb
  go_wp2_with fail
  rw [show (i : Int) + 1 = ((i + 1 : Nat) : Int) by omega, show (d : Int) + 1 = ((d + 1 : Nat) : Int) by omega]
  have C1 := C.out w2 HT2.out
  rw [hr] at C1
  refine C1.mono ?_
  clear C1
  rintro E w8 ⟨rfl, hb⟩
  have HB8 := Lib.hid (after HB2.out hb)
  have hq : (c == 0) = false := beq_eq_false_iff_ne.2 hc
  clear hb
  obtain ⟨z0, z1, z2, z3, z4, r0, r1, r2, r3, r4, y0, y1, y2, y3, y4⟩ := ((Q.out _ _ _ _ _).bel HB8.out).facts
  have hq1 := ((Q.out _ _ _ _ _).bel HB8.out).lt
  have S5 := fun o => put5_al ((Q.out _ _ _ _ _).bel HB8.out) (.int .i64 0) (.int .i64 0) (.int .i64 0) (.string ⟨#[]⟩) (.slice none 0 0) o
  have s0 := fun o => (S5 o).1
  have s1 := fun o => (S5 o).2.1
  have s2 := fun o => (S5 o).2.2.1
  have s3 := fun o => (S5 o).2.2.2.1
  have s4 := fun o => (S5 o).2.2.2.2
  have HF := Lib.hid (fun o => Below.alloc (parse_fin zE none 0 0 HB8.out (zE_in _ _)).2 (by rw [put5_size]; omega) o)
  clear S5
  go_wp2_with fail
  exact bodyPost_ret (v := .tuple #[S3.eV zE (.slice none 0 0), .int .i64 (j : Int), .int .i64 c]) (by simp [results, Tryz.results228, go_sem, zE, s0, s1, s2, s3, s4]) rfl ⟨rfl, HF.out _⟩
set_option maxRecDepth 100000 in
set_option maxHeartbeats 2000000 in
theorem rns_yes_not {w : World} {l : TL} {v : Value} (hT : TokL w w.heap.size v l) (_hll : l.length ≤ 1000000) (i : Nat) (_hi : i ≤ l.length) (d : Nat) (_hd : d ≤ 9223372036854775807) (hs : sgAt l i = [33]) (h40 : d < 40) (C : OPR l v (i + 1) (d + 1)) (e : Ex) (n : Nat) (hn1 : 1 ≤ n) (hnl : n ≤ l.length) (hr : opdR l (i + 1) (d + 1) = .ok e n) (hx : S3.exB ⟨4, 15, 0, [], [e]⟩ = true) :
    Calls Tryz.prog 228 #[v, .int .i64 (i : Int), .int .i64 (d : Int)] w (PostP w (.ok ⟨4, 15, 0, [], [e]⟩ n)) := by
  have q1 : (sgAt l i == [45]) = false := by rw [hs]; rfl
  have q2 : (sgAt l i == [33]) = true := by rw [hs]; rfl
  have h40' : ¬ (40 : Int) ≤ (d : Int) := by omega
  have C := Lib.hid C
  have HOO := Lib.hid (okE4 (op := 15) (e := e) (by decide))
  have HT0 := Lib.hid (fun o => tokU hT (S3.bal w o))
  have Q := Lib.hid (fun a0 a1 a2 a3 a4 => R5.new w a0 a1 a2 a3 a4)
  clear hT
  go_enter Tryz.func228, Tryz.ntmps228
  try simp only [List.append_eq, List.cons_append, List.nil_append]
  go_wp2_with fail
  refine (rsg_is (HT0.out _) q1 (by simp) (by omega)).mono ?_
  rintro E w1 ⟨rfl, hb⟩
  have HB1 := Lib.hid (hb)
  have HT1 := Lib.hid (tokU (HT0.out _) hb)
  clear hb
  go_wp2_with fail
  refine (rsg_is HT1.out q2 (by simp) (by omega)).mono ?_
  rintro E w2 ⟨rfl, hb⟩
  have HB2 := Lib.hid (after HB1.out hb)
  have HT2 := Lib.hid (tokU HT1.out hb)
  clear hb
  go_wp2_with fail
  rw [show (i : Int) + 1 = ((i + 1 : Nat) : Int) by omega, show (d : Int) + 1 = ((d + 1 : Nat) : Int) by omega]
  have C1 := C.out w2 HT2.out
  rw [hr] at C1
  refine C1.mono ?_
  clear C1
  rintro E w8 ⟨A, k, c, rfl, ho, hE, hb⟩
  have HB8 := Lib.hid (after HB2.out hb)
  have HT8 := Lib.hid (tokU HT2.out hb)
  have hL := HB2.out.size
  rw [S3.sz1] at hL
  have HE8 := Lib.hid (er_mono hE (show w.heap.size + 1 ≤ w2.heap.size by omega) (Nat.le_refl _))
  have HO8 := Lib.hid ho
  have hz8 := HB8.out.size
  rw [S3.sz1] at hz8
  clear hb hE ho
  go_wp2_with fail
  have HE9 := er_one HO8.out (n := w.heap.size + 1) (by rw [S3.sz1]; omega) (er_bel HE8.out (S3.bal w8 (S3.eO e (.slice A k c))))
  have HB9 := Lib.hid (after (after HB8.out (S3.bal w8 (S3.eO e (.slice A k c)))) (S3.bal (w8.alloc (S3.eO e (.slice A k c))) (S3.eO e (.slice A k c))))
  rw [show (w8.alloc (S3.eO e (.slice A k c))).heap.size = w8.heap.size + 1 from S3.sz1 _ _] at HE9
  have HE9 := Lib.hid HE9
  generalize (w8.alloc (S3.eO e (.slice A k c))).alloc (S3.eO e (.slice A k c)) = w9 at *
  refine (rmade_yes ⟨4, 15, 0, [], [e]⟩ HOO.out hx _ 1 1 (n : Int) (by omega) (by omega) w9 (er_in HE9.out (Nat.le_refl _))).mono ?_
  rintro E w10 ⟨rfl, hb⟩
  have HB10 := Lib.hid (after HB9.out hb)
  have HE10 := Lib.hid (er_bel HE9.out hb)
  clear hb
  obtain ⟨z0, z1, z2, z3, z4, r0, r1, r2, r3, r4, y0, y1, y2, y3, y4⟩ := ((Q.out _ _ _ _ _).bel HB10.out).facts
  have hq1 := ((Q.out _ _ _ _ _).bel HB10.out).lt
  have HF := Lib.hid (parse_fin ⟨4, 15, 0, [], [e]⟩ (some ⟨w8.heap.size + 1, 0, none⟩) 1 1 HB10.out HE10.out)
  go_wp2_with fail
  exact bodyPost_ret (v := .tuple #[S3.eV ⟨4, 15, 0, [], [e]⟩ (.slice (some ⟨w8.heap.size + 1, 0, none⟩) 1 1), .int .i64 (n : Int), .int .i64 0]) (by simp [results, Tryz.results228, go_sem, r0, r1, r2, r3, r4]) rfl ⟨(some ⟨w8.heap.size + 1, 0, none⟩), 1, 1, rfl, HOO.out, HF.out.1, HF.out.2⟩
set_option maxRecDepth 100000 in
set_option maxHeartbeats 2000000 in
theorem rns_made_not {w : World} {l : TL} {v : Value} (hT : TokL w w.heap.size v l) (_hll : l.length ≤ 1000000) (i : Nat) (_hi : i ≤ l.length) (d : Nat) (_hd : d ≤ 9223372036854775807) (hs : sgAt l i = [33]) (h40 : d < 40) (C : OPR l v (i + 1) (d + 1)) (e : Ex) (n : Nat) (hn1 : 1 ≤ n) (hnl : n ≤ l.length) (hr : opdR l (i + 1) (d + 1) = .ok e n) (hx : S3.exB ⟨4, 15, 0, [], [e]⟩ = false) :
    Calls Tryz.prog 228 #[v, .int .i64 (i : Int), .int .i64 (d : Int)] w (PostP w (.bad (n - 1) 8)) := by
  have q1 : (sgAt l i == [45]) = false := by rw [hs]; rfl
  have q2 : (sgAt l i == [33]) = true := by rw [hs]; rfl
  have h40' : ¬ (40 : Int) ≤ (d : Int) := by omega
  have C := Lib.hid C
  have HOO := Lib.hid (okE4 (op := 15) (e := e) (by decide))
  have HT0 := Lib.hid (fun o => tokU hT (S3.bal w o))
  have Q := Lib.hid (fun a0 a1 a2 a3 a4 => R5.new w a0 a1 a2 a3 a4)
  clear hT
  go_enter Tryz.func228, Tryz.ntmps228
  try simp only [List.append_eq, List.cons_append, List.nil_append]
  go_wp2_with fail
  refine (rsg_is (HT0.out _) q1 (by simp) (by omega)).mono ?_
  rintro E w1 ⟨rfl, hb⟩
  have HB1 := Lib.hid (hb)
  have HT1 := Lib.hid (tokU (HT0.out _) hb)
  clear hb
  go_wp2_with fail
  refine (rsg_is HT1.out q2 (by simp) (by omega)).mono ?_
  rintro E w2 ⟨rfl, hb⟩
  have HB2 := Lib.hid (after HB1.out hb)
  have HT2 := Lib.hid (tokU HT1.out hb)
  clear hb
  go_wp2_with fail
  rw [show (i : Int) + 1 = ((i + 1 : Nat) : Int) by omega, show (d : Int) + 1 = ((d + 1 : Nat) : Int) by omega]
  have C1 := C.out w2 HT2.out
  rw [hr] at C1
  refine C1.mono ?_
  clear C1
  rintro E w8 ⟨A, k, c, rfl, ho, hE, hb⟩
  have HB8 := Lib.hid (after HB2.out hb)
  have HT8 := Lib.hid (tokU HT2.out hb)
  have hL := HB2.out.size
  rw [S3.sz1] at hL
  have HE8 := Lib.hid (er_mono hE (show w.heap.size + 1 ≤ w2.heap.size by omega) (Nat.le_refl _))
  have HO8 := Lib.hid ho
  have hz8 := HB8.out.size
  rw [S3.sz1] at hz8
  clear hb hE ho
  go_wp2_with fail
  have HE9 := er_one HO8.out (n := w.heap.size + 1) (by rw [S3.sz1]; omega) (er_bel HE8.out (S3.bal w8 (S3.eO e (.slice A k c))))
  have HB9 := Lib.hid (after (after HB8.out (S3.bal w8 (S3.eO e (.slice A k c)))) (S3.bal (w8.alloc (S3.eO e (.slice A k c))) (S3.eO e (.slice A k c))))
  rw [show (w8.alloc (S3.eO e (.slice A k c))).heap.size = w8.heap.size + 1 from S3.sz1 _ _] at HE9
  have HE9 := Lib.hid HE9
  generalize (w8.alloc (S3.eO e (.slice A k c))).alloc (S3.eO e (.slice A k c)) = w9 at *
  refine (rmade_no ⟨4, 15, 0, [], [e]⟩ HOO.out hx _ 1 1 (n : Int) (by omega) (by omega) w9 (er_in HE9.out (Nat.le_refl _))).mono ?_
  rintro E w10 ⟨rfl, hb⟩
  have HB10 := Lib.hid (after HB9.out hb)
  have HE10 := Lib.hid (er_bel HE9.out hb)
  clear hb
  obtain ⟨z0, z1, z2, z3, z4, r0, r1, r2, r3, r4, y0, y1, y2, y3, y4⟩ := ((Q.out _ _ _ _ _).bel HB10.out).facts
  have hq1 := ((Q.out _ _ _ _ _).bel HB10.out).lt
  have HF := Lib.hid (parse_fin zE none 0 0 HB10.out (zE_in _ _)).2
  go_wp2_with fail
  exact bodyPost_ret (v := .tuple #[S3.eV zE (.slice none 0 0), .int .i64 ((n : Int) - 1), .int .i64 8]) (by simp [results, Tryz.results228, go_sem, zE, r0, r1, r2, r3, r4]) rfl ⟨by rw [show ((n - 1 : Nat) : Int) = (n : Int) - 1 by omega], HF.out⟩
set_option maxRecDepth 100000 in
set_option maxHeartbeats 2000000 in
theorem rns_bad_par {w : World} {l : TL} {v : Value} (hT : TokL w w.heap.size v l) (_hll : l.length ≤ 1000000) (i : Nat) (_hi : i ≤ l.length) (d : Nat) (_hd : d ≤ 9223372036854775807) (hs : sgAt l i = [40]) (h40 : d < 40) (C : BIR l v (i + 1) (d + 1) 1) (j : Nat) (c : Int) (hc : c ≠ 0) (hr : binR l (i + 1) (d + 1) 1 = .bad j c) :
    Calls Tryz.prog 228 #[v, .int .i64 (i : Int), .int .i64 (d : Int)] w (PostP w (.bad j c)) := by
  have q1 : (sgAt l i == [45]) = false := by rw [hs]; rfl
  have q2 : (sgAt l i == [33]) = false := by rw [hs]; rfl
  have q3 : (sgAt l i == [40]) = true := by rw [hs]; rfl
  have h40' : ¬ (40 : Int) ≤ (d : Int) := by omega
  have C := Lib.hid C
  have HT0 := Lib.hid (fun o => tokU hT (S3.bal w o))
  have Q := Lib.hid (fun a0 a1 a2 a3 a4 => R5.new w a0 a1 a2 a3 a4)
  clear hT
  go_enter Tryz.func228, Tryz.ntmps228
  try simp only [List.append_eq, List.cons_append, List.nil_append]
  go_wp2_with fail
  refine (rsg_is (HT0.out _) q1 (by simp) (by omega)).mono ?_
  rintro E w1 ⟨rfl, hb⟩
  have HB1 := Lib.hid (hb)
  have HT1 := Lib.hid (tokU (HT0.out _) hb)
  clear hb
  go_wp2_with fail
  refine (rsg_is HT1.out q2 (by simp) (by omega)).mono ?_
  rintro E w2 ⟨rfl, hb⟩
  have HB2 := Lib.hid (after HB1.out hb)
  have HT2 := Lib.hid (tokU HT1.out hb)
  clear hb
  go_wp2_with fail
  refine (rsg_is HT2.out q3 (by simp) (by omega)).mono ?_
  rintro E w3 ⟨rfl, hb⟩
  have HB3 := Lib.hid (after HB2.out hb)
  have HT3 := Lib.hid (tokU HT2.out hb)
  clear hb
  go_wp2_with fail
  rw [show (i : Int) + 1 = ((i + 1 : Nat) : Int) by omega, show (d : Int) + 1 = ((d + 1 : Nat) : Int) by omega]
  have C1 := C.out w3 HT3.out
  rw [hr] at C1
  refine C1.mono ?_
  clear C1
  rintro E w8 ⟨rfl, hb⟩
  have HB8 := Lib.hid (after HB3.out hb)
  have hq : (c == 0) = false := beq_eq_false_iff_ne.2 hc
  clear hb
  obtain ⟨z0, z1, z2, z3, z4, r0, r1, r2, r3, r4, y0, y1, y2, y3, y4⟩ := ((Q.out _ _ _ _ _).bel HB8.out).facts
  have hq1 := ((Q.out _ _ _ _ _).bel HB8.out).lt
  have S5 := fun o => put5_al ((Q.out _ _ _ _ _).bel HB8.out) (.int .i64 0) (.int .i64 0) (.int .i64 0) (.string ⟨#[]⟩) (.slice none 0 0) o
  have s0 := fun o => (S5 o).1
  have s1 := fun o => (S5 o).2.1
  have s2 := fun o => (S5 o).2.2.1
  have s3 := fun o => (S5 o).2.2.2.1
  have s4 := fun o => (S5 o).2.2.2.2
  have HF := Lib.hid (fun o => Below.alloc (parse_fin zE none 0 0 HB8.out (zE_in _ _)).2 (by rw [put5_size]; omega) o)
  clear S5
  go_wp2_with fail
  exact bodyPost_ret (v := .tuple #[S3.eV zE (.slice none 0 0), .int .i64 (j : Int), .int .i64 c]) (by simp [results, Tryz.results228, go_sem, zE, s0, s1, s2, s3, s4]) rfl ⟨rfl, HF.out _⟩
set_option maxRecDepth 100000 in
set_option maxHeartbeats 2000000 in
theorem rns_yes_par {w : World} {l : TL} {v : Value} (hT : TokL w w.heap.size v l) (_hll : l.length ≤ 1000000) (i : Nat) (_hi : i ≤ l.length) (d : Nat) (_hd : d ≤ 9223372036854775807) (hs : sgAt l i = [40]) (h40 : d < 40) (C : BIR l v (i + 1) (d + 1) 1) (e : Ex) (n : Nat) (hnl : n ≤ l.length) (hr : binR l (i + 1) (d + 1) 1 = .ok e n) (hsn : sgAt l n = [41]) :
    Calls Tryz.prog 228 #[v, .int .i64 (i : Int), .int .i64 (d : Int)] w (PostP w (.ok e (n + 1))) := by
  have q1 : (sgAt l i == [45]) = false := by rw [hs]; rfl
  have q2 : (sgAt l i == [33]) = false := by rw [hs]; rfl
  have q3 : (sgAt l i == [40]) = true := by rw [hs]; rfl
  have h40' : ¬ (40 : Int) ≤ (d : Int) := by omega
  have C := Lib.hid C
  have qn : (sgAt l n == [41]) = true := by rw [hsn]; rfl
  have HT0 := Lib.hid (fun o => tokU hT (S3.bal w o))
  have Q := Lib.hid (fun a0 a1 a2 a3 a4 => R5.new w a0 a1 a2 a3 a4)
  clear hT
  go_enter Tryz.func228, Tryz.ntmps228
  try simp only [List.append_eq, List.cons_append, List.nil_append]
  go_wp2_with fail
  refine (rsg_is (HT0.out _) q1 (by simp) (by omega)).mono ?_
  rintro E w1 ⟨rfl, hb⟩
  have HB1 := Lib.hid (hb)
  have HT1 := Lib.hid (tokU (HT0.out _) hb)
  clear hb
  go_wp2_with fail
  refine (rsg_is HT1.out q2 (by simp) (by omega)).mono ?_
  rintro E w2 ⟨rfl, hb⟩
  have HB2 := Lib.hid (after HB1.out hb)
  have HT2 := Lib.hid (tokU HT1.out hb)
  clear hb
  go_wp2_with fail
  refine (rsg_is HT2.out q3 (by simp) (by omega)).mono ?_
  rintro E w3 ⟨rfl, hb⟩
  have HB3 := Lib.hid (after HB2.out hb)
  have HT3 := Lib.hid (tokU HT2.out hb)
  clear hb
  go_wp2_with fail
  rw [show (i : Int) + 1 = ((i + 1 : Nat) : Int) by omega, show (d : Int) + 1 = ((d + 1 : Nat) : Int) by omega]
  have C1 := C.out w3 HT3.out
  rw [hr] at C1
  refine C1.mono ?_
  clear C1
  rintro E w8 ⟨A, k, c, rfl, ho, hE, hb⟩
  have HB8 := Lib.hid (after HB3.out hb)
  have HT8 := Lib.hid (tokU HT3.out hb)
  have hL := HB3.out.size
  rw [S3.sz1] at hL
  have HE8 := Lib.hid (er_mono hE (show w.heap.size + 1 ≤ w3.heap.size by omega) (Nat.le_refl _))
  have HO8 := Lib.hid ho
  have hz8 := HB8.out.size
  rw [S3.sz1] at hz8
  clear hb hE ho
  have X8 := Lib.hid (S3.EBox.new w8 e (.slice A k c))
  have HT8e := Lib.hid (tokU HT8.out (S3.bal w8 (S3.eO e (.slice A k c))))
  go_wp2_with fail
  refine (rsg_is HT8e.out qn (by simp) (by omega)).mono ?_
  rintro E w9 ⟨rfl, hb⟩
  have HB9 := Lib.hid (after (after HB8.out (S3.bal w8 (S3.eO e (.slice A k c)))) hb)
  obtain ⟨x0, x1, x2, x3, x4⟩ := X8.out.keep hb (by rw [S3.sz1]; omega)
  have HE9 := Lib.hid (er_bel (er_bel HE8.out (S3.bal w8 (S3.eO e (.slice A k c)))) hb)
  have hz9 : w8.heap.size < w9.heap.size := by have := hb.size; rw [S3.sz1] at this; omega
  clear hb
  obtain ⟨z0, z1, z2, z3, z4, r0, r1, r2, r3, r4, y0, y1, y2, y3, y4⟩ := ((Q.out _ _ _ _ _).bel HB9.out).facts
  have hq1 := ((Q.out _ _ _ _ _).bel HB9.out).lt
  have HF := Lib.hid (parse_fin e A k c HB9.out HE9.out)
  go_wp2_with fail
  exact bodyPost_ret (v := .tuple #[S3.eV e (.slice A k c), .int .i64 ((n : Int) + 1), .int .i64 0]) (by simp [results, Tryz.results228, go_sem, r0, r1, r2, r3, r4]) rfl ⟨A, k, c, by rw [show ((n + 1 : Nat) : Int) = (n : Int) + 1 by omega], HO8.out, HF.out.1, HF.out.2⟩
set_option maxRecDepth 100000 in
set_option maxHeartbeats 2000000 in
theorem rns_no_par {w : World} {l : TL} {v : Value} (hT : TokL w w.heap.size v l) (_hll : l.length ≤ 1000000) (i : Nat) (_hi : i ≤ l.length) (d : Nat) (_hd : d ≤ 9223372036854775807) (hs : sgAt l i = [40]) (h40 : d < 40) (C : BIR l v (i + 1) (d + 1) 1) (e : Ex) (n : Nat) (_hnl : n ≤ l.length) (hr : binR l (i + 1) (d + 1) 1 = .ok e n) (hsn : sgAt l n ≠ [41]) :
    Calls Tryz.prog 228 #[v, .int .i64 (i : Int), .int .i64 (d : Int)] w (PostP w (.bad n 7)) := by
  have q1 : (sgAt l i == [45]) = false := by rw [hs]; rfl
  have q2 : (sgAt l i == [33]) = false := by rw [hs]; rfl
  have q3 : (sgAt l i == [40]) = true := by rw [hs]; rfl
  have h40' : ¬ (40 : Int) ≤ (d : Int) := by omega
  have C := Lib.hid C
  have qn : (sgAt l n == [41]) = false := beq_eq_false_iff_ne.2 hsn
  have HT0 := Lib.hid (fun o => tokU hT (S3.bal w o))
  have Q := Lib.hid (fun a0 a1 a2 a3 a4 => R5.new w a0 a1 a2 a3 a4)
  clear hT
  go_enter Tryz.func228, Tryz.ntmps228
  try simp only [List.append_eq, List.cons_append, List.nil_append]
  go_wp2_with fail
  refine (rsg_is (HT0.out _) q1 (by simp) (by omega)).mono ?_
  rintro E w1 ⟨rfl, hb⟩
  have HB1 := Lib.hid (hb)
  have HT1 := Lib.hid (tokU (HT0.out _) hb)
  clear hb
  go_wp2_with fail
  refine (rsg_is HT1.out q2 (by simp) (by omega)).mono ?_
  rintro E w2 ⟨rfl, hb⟩
  have HB2 := Lib.hid (after HB1.out hb)
  have HT2 := Lib.hid (tokU HT1.out hb)
  clear hb
  go_wp2_with fail
  refine (rsg_is HT2.out q3 (by simp) (by omega)).mono ?_
  rintro E w3 ⟨rfl, hb⟩
  have HB3 := Lib.hid (after HB2.out hb)
  have HT3 := Lib.hid (tokU HT2.out hb)
  clear hb
  go_wp2_with fail
  rw [show (i : Int) + 1 = ((i + 1 : Nat) : Int) by omega, show (d : Int) + 1 = ((d + 1 : Nat) : Int) by omega]
  have C1 := C.out w3 HT3.out
  rw [hr] at C1
  refine C1.mono ?_
  clear C1
  rintro E w8 ⟨A, k, c, rfl, ho, hE, hb⟩
  have HB8 := Lib.hid (after HB3.out hb)
  have HT8 := Lib.hid (tokU HT3.out hb)
  have hL := HB3.out.size
  rw [S3.sz1] at hL
  have HE8 := Lib.hid (er_mono hE (show w.heap.size + 1 ≤ w3.heap.size by omega) (Nat.le_refl _))
  have HO8 := Lib.hid ho
  have hz8 := HB8.out.size
  rw [S3.sz1] at hz8
  clear hb hE ho
  have X8 := Lib.hid (S3.EBox.new w8 e (.slice A k c))
  have HT8e := Lib.hid (tokU HT8.out (S3.bal w8 (S3.eO e (.slice A k c))))
  go_wp2_with fail
  refine (rsg_is HT8e.out qn (by simp) (by omega)).mono ?_
  rintro E w9 ⟨rfl, hb⟩
  have HB9 := Lib.hid (after (after HB8.out (S3.bal w8 (S3.eO e (.slice A k c)))) hb)
  obtain ⟨x0, x1, x2, x3, x4⟩ := X8.out.keep hb (by rw [S3.sz1]; omega)
  have HE9 := Lib.hid (er_bel (er_bel HE8.out (S3.bal w8 (S3.eO e (.slice A k c)))) hb)
  have hz9 : w8.heap.size < w9.heap.size := by have := hb.size; rw [S3.sz1] at this; omega
  clear hb
  obtain ⟨z0, z1, z2, z3, z4, r0, r1, r2, r3, r4, y0, y1, y2, y3, y4⟩ := ((Q.out _ _ _ _ _).bel HB9.out).facts
  have hq1 := ((Q.out _ _ _ _ _).bel HB9.out).lt
  have HF := Lib.hid (parse_fin zE none 0 0 HB9.out (zE_in _ _)).2
  go_wp2_with fail
  exact bodyPost_ret (v := .tuple #[S3.eV zE (.slice none 0 0), .int .i64 (n : Int), .int .i64 7]) (by simp [results, Tryz.results228, go_sem, zE, r0, r1, r2, r3, r4]) rfl ⟨rfl, HF.out⟩
end Go.Proofs.YtoldhocdfkndbaaGreatDoor.E5

namespace Go.Proofs.YtoldhocdfkndbaaGreatDoor.E5
open Go Go.RowKit Go.Proofs.YtoldhocdfkndbaaGreatDoor

abbrev tO (t : Int × Bytes) (a : Int) : Obj := .cells #[.int .i64 t.1, .string (B t.2), .int .i64 a] 129
/-- A token's box. -/
structure TBx (W : World) (b : Nat) (t : Int × Bytes) (a : Int) : Prop where
  c0 : W.cell? ⟨b, 0, none⟩ = some (.int .i64 t.1)
  c1 : W.cell? ⟨b, 1, none⟩ = some (.string (B t.2))
  c2 : W.cell? ⟨b, 2, none⟩ = some (.int .i64 a)
theorem TBx.new (w : World) (t : Int × Bytes) (a : Int) : TBx (w.alloc (tO t a)) w.heap.size t a := ⟨S3.newCell w _ _ 0 _ rfl, S3.newCell w _ _ 1 _ rfl, S3.newCell w _ _ 2 _ rfl⟩
theorem TBx.keep {w w' : World} {b M : Nat} {t : Int × Bytes} {a : Int} (h : TBx w b t a) (hb : Below M w w') (hl : b < M) : TBx w' b t a :=
  ⟨(hb.cell (p := ⟨b, 0, none⟩) hl).trans h.c0, (hb.cell (p := ⟨b, 1, none⟩) hl).trans h.c1, (hb.cell (p := ⟨b, 2, none⟩) hl).trans h.c2⟩
theorem kw_no {l : TL} {i : Nat} {s : Bytes} (h : (tkAt l i).1 ≠ 3 ∨ (tkAt l i).2 ≠ s) : decide (tkAt l i = (3, s)) = false := decide_eq_false fun e => by
  rw [e] at h
  rcases h with h | h
  · exact h rfl
  · exact h rfl
theorem kw_yes {l : TL} {i : Nat} {s : Bytes} (h : (tkAt l i).1 = 3) (h2 : (tkAt l i).2 = s) : decide (tkAt l i = (3, s)) = true := decide_eq_true (Prod.ext h h2)
set_option maxRecDepth 100000 in
set_option maxHeartbeats 2000000 in
theorem rop_out {w : World} {l : TL} {v : Value} (hT : TokL w w.heap.size v l) (i : Nat) (hil : l.length ≤ i) (d : Nat) :
    Calls Tryz.prog 207 #[v, .int .i64 (i : Int), .int .i64 (d : Int)] w (PostP w (.bad l.length 7)) := by
  obtain ⟨A, c, rfl⟩ := hT.val
  have hge : (l.length : Int) ≤ (i : Int) := by omega
  clear hT
  go_enter Tryz.func207, Tryz.ntmps207
  try simp only [List.append_eq, List.cons_append, List.nil_append]
  go_wp2_with fail
  exact bodyPost_ret (v := .tuple #[S3.eV zE (.slice none 0 0), .int .i64 (l.length : Int), .int .i64 7]) (by simp [results, Tryz.results207, go_sem, zE]) rfl ⟨rfl, S3.bal w _⟩
set_option maxRecDepth 100000 in
set_option maxHeartbeats 2000000 in
theorem rop_numbad {w : World} {l : TL} {v : Value} (hT : TokL w w.heap.size v l) (_hll : l.length ≤ 1000000) (i : Nat) (hil : i < l.length) (d : Nat) (hk : (tkAt l i).1 = 2) (a1 a2 : Int) (hP : N2.encN (N2.numParse (tkAt l i).2) = .int .i64 a1 ∧ N2.encE 7 (N2.numParse (tkAt l i).2) = .int .i64 a2) (hbad : a2 ≠ 0 ∨ (a2 = 0 ∧ a1 < 0)) :
    Calls Tryz.prog 207 #[v, .int .i64 (i : Int), .int .i64 (d : Int)] w (PostP w (.bad i 7)) := by
  obtain ⟨A, c, rfl⟩ := hT.val
  obtain ⟨_, htl, tb, og, a, rfl, htb, t0, t1, t2⟩ := hT.at3 i hil
  have hge : ¬ (l.length : Int) ≤ (i : Int) := by omega
  have HT1 := Lib.hid (tokU (tokU hT (S3.bal w zO)) (S3.bal (w.alloc zO) (tO (tkAt l i) a)))
  have HB1 := Lib.hid (S3.bal (w.alloc zO) (tO (tkAt l i) a))
  have X1 := TBx.new (w.alloc zO) (tkAt l i) a
  rw [S3.sz1] at X1
  have HX1 := Lib.hid X1
  have Q := Lib.hid (fun a0 a1 a2 a3 a4 => R5.new w a0 a1 a2 a3 a4)
  have hw1 : ((w.alloc zO).alloc (tO (tkAt l i) a)).heap.size = w.heap.size + 1 + 1 := by rw [S3.sz1, S3.sz1]
  clear X1 hT
  have q2 : ((tkAt l i).1 == 2) = true := by rw [hk]; rfl
  have NP0 := fun W => N2.parse_ref (B (tkAt l i).2) (by rw [L4.B_size]; exact htl) W
  rw [show (B (tkAt l i).2).data.toList = (tkAt l i).2 from rfl] at NP0
  rw [hP.1, hP.2] at NP0
  have NP := Lib.hid NP0
  clear NP0
  go_enter Tryz.func207, Tryz.ntmps207
  try simp only [List.append_eq, List.cons_append, List.nil_append]
  go_wp2_with fail
  refine (NP.out _).mono ?_
  rintro E w8 ⟨rfl, rfl⟩
  go_wp2_with fail
  all_goals exact bodyPost_ret (v := .tuple #[S3.eV zE (.slice none 0 0), .int .i64 (i : Int), .int .i64 7]) (by simp [results, Tryz.results207, go_sem, zE]) rfl ⟨rfl, S3.bal2 w _ _⟩
set_option maxRecDepth 100000 in
set_option maxHeartbeats 2000000 in
theorem rop_num {w : World} {l : TL} {v : Value} (hT : TokL w w.heap.size v l) (_hll : l.length ≤ 1000000) (i : Nat) (hil : i < l.length) (d : Nat) (hk : (tkAt l i).1 = 2) (n : Int) (hn : 0 ≤ n) (hP : N2.numParse (tkAt l i).2 = some n) :
    Calls Tryz.prog 207 #[v, .int .i64 (i : Int), .int .i64 (d : Int)] w (PostP w (.ok ⟨1, 0, n, [], []⟩ (i + 1))) := by
  obtain ⟨A, c, rfl⟩ := hT.val
  obtain ⟨_, htl, tb, og, a, rfl, htb, t0, t1, t2⟩ := hT.at3 i hil
  have hge : ¬ (l.length : Int) ≤ (i : Int) := by omega
  have HT1 := Lib.hid (tokU (tokU hT (S3.bal w zO)) (S3.bal (w.alloc zO) (tO (tkAt l i) a)))
  have HB1 := Lib.hid (S3.bal (w.alloc zO) (tO (tkAt l i) a))
  have X1 := TBx.new (w.alloc zO) (tkAt l i) a
  rw [S3.sz1] at X1
  have HX1 := Lib.hid X1
  have Q := Lib.hid (fun a0 a1 a2 a3 a4 => R5.new w a0 a1 a2 a3 a4)
  have hw1 : ((w.alloc zO).alloc (tO (tkAt l i) a)).heap.size = w.heap.size + 1 + 1 := by rw [S3.sz1, S3.sz1]
  clear X1 hT
  have q2 : ((tkAt l i).1 == 2) = true := by rw [hk]; rfl
  have NP0 := fun W => N2.parse_ref (B (tkAt l i).2) (by rw [L4.B_size]; exact htl) W
  rw [show (B (tkAt l i).2).data.toList = (tkAt l i).2 from rfl] at NP0
  rw [hP, show N2.encN (some n) = .int .i64 n from rfl, show N2.encE 7 (some n) = .int .i64 0 from rfl] at NP0
  have HO := Lib.hid (okE_leaf (k := 1) (n := n) (s := []) (by decide) (numP_ok hP) (by decide))
  have hn0 : ¬ n < 0 := by omega
  have NP := Lib.hid NP0
  clear NP0
  go_enter Tryz.func207, Tryz.ntmps207
  try simp only [List.append_eq, List.cons_append, List.nil_append]
  go_wp2_with fail
  refine (NP.out _).mono ?_
  rintro E w8 ⟨rfl, rfl⟩
  go_wp2_with fail
  all_goals exact bodyPost_ret (v := .tuple #[S3.eV ⟨1, 0, n, [], []⟩ (.slice none 0 0), .int .i64 ((i : Int) + 1), .int .i64 0]) (by simp [results, Tryz.results207, go_sem]) rfl ⟨none, 0, 0, by rw [show ((i + 1 : Nat) : Int) = (i : Int) + 1 by omega], HO.out, er_nil _ _, S3.bal2 w _ _⟩
set_option maxRecDepth 100000 in
set_option maxHeartbeats 2000000 in
theorem rop_true {w : World} {l : TL} {v : Value} (hT : TokL w w.heap.size v l) (_hll : l.length ≤ 1000000) (i : Nat) (hil : i < l.length) (d : Nat) (K1 : decide (tkAt l i = (3, [116, 114, 117, 101])) = true) (hk : (tkAt l i).1 ≠ 2) :
    Calls Tryz.prog 207 #[v, .int .i64 (i : Int), .int .i64 (d : Int)] w (PostP w (.ok ⟨2, 0, 1, [], []⟩ (i + 1))) := by
  obtain ⟨A, c, rfl⟩ := hT.val
  obtain ⟨_, htl, tb, og, a, rfl, htb, t0, t1, t2⟩ := hT.at3 i hil
  have hge : ¬ (l.length : Int) ≤ (i : Int) := by omega
  have HT1 := Lib.hid (tokU (tokU hT (S3.bal w zO)) (S3.bal (w.alloc zO) (tO (tkAt l i) a)))
  have HB1 := Lib.hid (S3.bal (w.alloc zO) (tO (tkAt l i) a))
  have X1 := TBx.new (w.alloc zO) (tkAt l i) a
  rw [S3.sz1] at X1
  have HX1 := Lib.hid X1
  have Q := Lib.hid (fun a0 a1 a2 a3 a4 => R5.new w a0 a1 a2 a3 a4)
  have hw1 : ((w.alloc zO).alloc (tO (tkAt l i) a)).heap.size = w.heap.size + 1 + 1 := by rw [S3.sz1, S3.sz1]
  clear X1 hT
  have q2 : ((tkAt l i).1 == 2) = false := beq_eq_false_iff_ne.2 hk
  have HO := Lib.hid (okE_leaf (k := 2) (n := 1) (s := []) (by decide) (by unfold S3.okI; omega) (by decide))
  go_enter Tryz.func207, Tryz.ntmps207
  try simp only [List.append_eq, List.cons_append, List.nil_append]
  go_wp2_with fail
  refine (rkw_is HT1.out K1 (by omega)).mono ?_
  rintro E w2 ⟨rfl, hb⟩
  have HB2 := Lib.hid (after HB1.out hb)
  have HX2 := Lib.hid (HX1.out.keep hb (by rw [hw1]; omega))
  have HT2 := Lib.hid (tokU HT1.out hb)
  clear hb
  obtain ⟨z0, z1, z2, z3, z4, r0, r1, r2, r3, r4, y0, y1, y2, y3, y4⟩ := ((Q.out _ _ _ _ _).bel HB2.out).facts
  have hq1 := ((Q.out _ _ _ _ _).bel HB2.out).lt
  have HF := Lib.hid (parse_fin ⟨2, 0, 1, [], []⟩ none 0 0 HB2.out (er_nil _ _))
  go_wp2_with fail
  exact bodyPost_ret (v := .tuple #[S3.eV ⟨2, 0, 1, [], []⟩ (.slice none 0 0), .int .i64 ((i : Int) + 1), .int .i64 0]) (by simp [results, Tryz.results207, go_sem, r0, r1, r2, r3, r4]) rfl ⟨none, 0, 0, by rw [show ((i + 1 : Nat) : Int) = (i : Int) + 1 by omega], HO.out, HF.out.1, HF.out.2⟩
set_option maxRecDepth 100000 in
set_option maxHeartbeats 2000000 in
theorem rop_false {w : World} {l : TL} {v : Value} (hT : TokL w w.heap.size v l) (_hll : l.length ≤ 1000000) (i : Nat) (hil : i < l.length) (d : Nat) (K1 : decide (tkAt l i = (3, [116, 114, 117, 101])) = false) (K2 : decide (tkAt l i = (3, [102, 97, 108, 115, 101])) = true) (hk : (tkAt l i).1 ≠ 2) :
    Calls Tryz.prog 207 #[v, .int .i64 (i : Int), .int .i64 (d : Int)] w (PostP w (.ok ⟨2, 0, 0, [], []⟩ (i + 1))) := by
  obtain ⟨A, c, rfl⟩ := hT.val
  obtain ⟨_, htl, tb, og, a, rfl, htb, t0, t1, t2⟩ := hT.at3 i hil
  have hge : ¬ (l.length : Int) ≤ (i : Int) := by omega
  have HT1 := Lib.hid (tokU (tokU hT (S3.bal w zO)) (S3.bal (w.alloc zO) (tO (tkAt l i) a)))
  have HB1 := Lib.hid (S3.bal (w.alloc zO) (tO (tkAt l i) a))
  have X1 := TBx.new (w.alloc zO) (tkAt l i) a
  rw [S3.sz1] at X1
  have HX1 := Lib.hid X1
  have Q := Lib.hid (fun a0 a1 a2 a3 a4 => R5.new w a0 a1 a2 a3 a4)
  have hw1 : ((w.alloc zO).alloc (tO (tkAt l i) a)).heap.size = w.heap.size + 1 + 1 := by rw [S3.sz1, S3.sz1]
  clear X1 hT
  have q2 : ((tkAt l i).1 == 2) = false := beq_eq_false_iff_ne.2 hk
  have HO := Lib.hid (okE_leaf (k := 2) (n := 0) (s := []) (by decide) (by unfold S3.okI; omega) (by decide))
  go_enter Tryz.func207, Tryz.ntmps207
  try simp only [List.append_eq, List.cons_append, List.nil_append]
  go_wp2_with fail
  refine (rkw_is HT1.out K1 (by omega)).mono ?_
  rintro E w2 ⟨rfl, hb⟩
  have HB2 := Lib.hid (after HB1.out hb)
  have HX2 := Lib.hid (HX1.out.keep hb (by rw [hw1]; omega))
  have HT2 := Lib.hid (tokU HT1.out hb)
  clear hb
  go_wp2_with fail
  refine (rkw_is HT2.out K2 (by omega)).mono ?_
  rintro E w3 ⟨rfl, hb⟩
  have HB3 := Lib.hid (after HB2.out hb)
  have HX3 := Lib.hid (HX2.out.keep hb (by have := World.block_lt_of_cell? _ _ HX2.out.c0; exact this))
  have HT3 := Lib.hid (tokU HT2.out hb)
  clear hb
  obtain ⟨z0, z1, z2, z3, z4, r0, r1, r2, r3, r4, y0, y1, y2, y3, y4⟩ := ((Q.out _ _ _ _ _).bel HB3.out).facts
  have hq1 := ((Q.out _ _ _ _ _).bel HB3.out).lt
  have HF := Lib.hid (parse_fin ⟨2, 0, 0, [], []⟩ none 0 0 HB3.out (er_nil _ _))
  go_wp2_with fail
  exact bodyPost_ret (v := .tuple #[S3.eV ⟨2, 0, 0, [], []⟩ (.slice none 0 0), .int .i64 ((i : Int) + 1), .int .i64 0]) (by simp [results, Tryz.results207, go_sem, r0, r1, r2, r3, r4]) rfl ⟨none, 0, 0, by rw [show ((i + 1 : Nat) : Int) = (i : Int) + 1 by omega], HO.out, HF.out.1, HF.out.2⟩
set_option maxRecDepth 100000 in
set_option maxHeartbeats 2000000 in
theorem rop_len {w : World} {l : TL} {v : Value} (hT : TokL w w.heap.size v l) (_hll : l.length ≤ 1000000) (i : Nat) (hil : i < l.length) (d : Nat) (K1 : decide (tkAt l i = (3, [116, 114, 117, 101])) = false) (K2 : decide (tkAt l i = (3, [102, 97, 108, 115, 101])) = false) (K3 : decide (tkAt l i = (3, [108, 101, 110])) = true) (hk : (tkAt l i).1 ≠ 2) (r : Res) (C : ∀ W, TokL W W.heap.size v l → Calls Tryz.prog 225 #[v, .int .i64 (i : Int)] W (PostP W r)) :
    Calls Tryz.prog 207 #[v, .int .i64 (i : Int), .int .i64 (d : Int)] w (PostP w (r)) := by
  obtain ⟨A, c, rfl⟩ := hT.val
  obtain ⟨_, htl, tb, og, a, rfl, htb, t0, t1, t2⟩ := hT.at3 i hil
  have hge : ¬ (l.length : Int) ≤ (i : Int) := by omega
  have HT1 := Lib.hid (tokU (tokU hT (S3.bal w zO)) (S3.bal (w.alloc zO) (tO (tkAt l i) a)))
  have HB1 := Lib.hid (S3.bal (w.alloc zO) (tO (tkAt l i) a))
  have X1 := TBx.new (w.alloc zO) (tkAt l i) a
  rw [S3.sz1] at X1
  have HX1 := Lib.hid X1
  have Q := Lib.hid (fun a0 a1 a2 a3 a4 => R5.new w a0 a1 a2 a3 a4)
  have hw1 : ((w.alloc zO).alloc (tO (tkAt l i) a)).heap.size = w.heap.size + 1 + 1 := by rw [S3.sz1, S3.sz1]
  clear X1 hT
  have q2 : ((tkAt l i).1 == 2) = false := beq_eq_false_iff_ne.2 hk
  have C := Lib.hid C
  go_enter Tryz.func207, Tryz.ntmps207
  try simp only [List.append_eq, List.cons_append, List.nil_append]
  go_wp2_with fail
  refine (rkw_is HT1.out K1 (by omega)).mono ?_
  rintro E w2 ⟨rfl, hb⟩
  have HB2 := Lib.hid (after HB1.out hb)
  have HX2 := Lib.hid (HX1.out.keep hb (by rw [hw1]; omega))
  have HT2 := Lib.hid (tokU HT1.out hb)
  clear hb
  go_wp2_with fail
  refine (rkw_is HT2.out K2 (by omega)).mono ?_
  rintro E w3 ⟨rfl, hb⟩
  have HB3 := Lib.hid (after HB2.out hb)
  have HX3 := Lib.hid (HX2.out.keep hb (by have := World.block_lt_of_cell? _ _ HX2.out.c0; exact this))
  have HT3 := Lib.hid (tokU HT2.out hb)
  clear hb
  go_wp2_with fail
  refine (rkw_is HT3.out K3 (by omega)).mono ?_
  rintro E w4 ⟨rfl, hb⟩
  have HB4 := Lib.hid (after HB3.out hb)
  have HX4 := Lib.hid (HX3.out.keep hb (by have := World.block_lt_of_cell? _ _ HX3.out.c0; exact this))
  have HT4 := Lib.hid (tokU HT3.out hb)
  clear hb
  go_wp2_with fail
  refine (C.out _ HT4.out).mono ?_
  intro E w8 hP
  cases r with
  | bad j c =>
    obtain ⟨rfl, hb⟩ := hP
    have HB8 := Lib.hid (after HB4.out hb)
    clear hb
    obtain ⟨z0, z1, z2, z3, z4, r0, r1, r2, r3, r4, y0, y1, y2, y3, y4⟩ := ((Q.out _ _ _ _ _).bel HB8.out).facts
    have hq1 := ((Q.out _ _ _ _ _).bel HB8.out).lt
    have HF := Lib.hid (parse_fin zE none 0 0 HB8.out (zE_in _ _)).2
    go_wp2_with fail
    exact bodyPost_ret (v := .tuple #[S3.eV zE (.slice none 0 0), .int .i64 (j : Int), .int .i64 c]) (by simp [results, Tryz.results207, go_sem, zE, r0, r1, r2, r3, r4]) rfl ⟨rfl, HF.out⟩
  | ok e n =>
    obtain ⟨A, k, c, rfl, ho, hE, hb⟩ := hP
    have HB8 := Lib.hid (after HB4.out hb)
    have hL := HB4.out.size
    rw [S3.sz1] at hL
    have HE8 := Lib.hid (er_mono hE (show w.heap.size + 1 ≤ w4.heap.size by omega) (Nat.le_refl _))
    have HO8 := Lib.hid ho
    clear hb hE ho
    obtain ⟨z0, z1, z2, z3, z4, r0, r1, r2, r3, r4, y0, y1, y2, y3, y4⟩ := ((Q.out _ _ _ _ _).bel HB8.out).facts
    have hq1 := ((Q.out _ _ _ _ _).bel HB8.out).lt
    have HF := Lib.hid (parse_fin e A k c HB8.out HE8.out)
    go_wp2_with fail
    exact bodyPost_ret (v := .tuple #[S3.eV e (.slice A k c), .int .i64 (n : Int), .int .i64 0]) (by simp [results, Tryz.results207, go_sem, r0, r1, r2, r3, r4]) rfl ⟨A, k, c, rfl, HO8.out, HF.out.1, HF.out.2⟩
set_option maxRecDepth 100000 in
set_option maxHeartbeats 2000000 in
theorem rop_nest {w : World} {l : TL} {v : Value} (hT : TokL w w.heap.size v l) (_hll : l.length ≤ 1000000) (i : Nat) (hil : i < l.length) (d : Nat) (K1 : decide (tkAt l i = (3, [116, 114, 117, 101])) = false) (K2 : decide (tkAt l i = (3, [102, 97, 108, 115, 101])) = false) (K3 : decide (tkAt l i = (3, [108, 101, 110])) = false) (hk : (tkAt l i).1 ≠ 2) (hn : nmTok (tkAt l i) = false) (r : Res) (C : ∀ W, TokL W W.heap.size v l → Calls Tryz.prog 228 #[v, .int .i64 (i : Int), .int .i64 (d : Int)] W (PostP W r)) :
    Calls Tryz.prog 207 #[v, .int .i64 (i : Int), .int .i64 (d : Int)] w (PostP w (r)) := by
  obtain ⟨A, c, rfl⟩ := hT.val
  obtain ⟨_, htl, tb, og, a, rfl, htb, t0, t1, t2⟩ := hT.at3 i hil
  have hge : ¬ (l.length : Int) ≤ (i : Int) := by omega
  have HT1 := Lib.hid (tokU (tokU hT (S3.bal w zO)) (S3.bal (w.alloc zO) (tO (tkAt l i) a)))
  have HB1 := Lib.hid (S3.bal (w.alloc zO) (tO (tkAt l i) a))
  have X1 := TBx.new (w.alloc zO) (tkAt l i) a
  rw [S3.sz1] at X1
  have HX1 := Lib.hid X1
  have Q := Lib.hid (fun a0 a1 a2 a3 a4 => R5.new w a0 a1 a2 a3 a4)
  have hw1 : ((w.alloc zO).alloc (tO (tkAt l i) a)).heap.size = w.heap.size + 1 + 1 := by rw [S3.sz1, S3.sz1]
  clear X1 hT
  have q2 : ((tkAt l i).1 == 2) = false := beq_eq_false_iff_ne.2 hk
  have C := Lib.hid C
  go_enter Tryz.func207, Tryz.ntmps207
  try simp only [List.append_eq, List.cons_append, List.nil_append]
  go_wp2_with fail
  refine (rkw_is HT1.out K1 (by omega)).mono ?_
  rintro E w2 ⟨rfl, hb⟩
  have HB2 := Lib.hid (after HB1.out hb)
  have HX2 := Lib.hid (HX1.out.keep hb (by rw [hw1]; omega))
  have HT2 := Lib.hid (tokU HT1.out hb)
  clear hb
  go_wp2_with fail
  refine (rkw_is HT2.out K2 (by omega)).mono ?_
  rintro E w3 ⟨rfl, hb⟩
  have HB3 := Lib.hid (after HB2.out hb)
  have HX3 := Lib.hid (HX2.out.keep hb (by have := World.block_lt_of_cell? _ _ HX2.out.c0; exact this))
  have HT3 := Lib.hid (tokU HT2.out hb)
  clear hb
  go_wp2_with fail
  refine (rkw_is HT3.out K3 (by omega)).mono ?_
  rintro E w4 ⟨rfl, hb⟩
  have HB4 := Lib.hid (after HB3.out hb)
  have HX4 := Lib.hid (HX3.out.keep hb (by have := World.block_lt_of_cell? _ _ HX3.out.c0; exact this))
  have HT4 := Lib.hid (tokU HT3.out hb)
  clear hb
  obtain ⟨b0, b1, b2⟩ := HX4.out
  go_wp2_with fail
  refine (rnm_calls _ _ _ htl _).mono ?_
  rintro E w5 ⟨rfl, hb⟩
  rw [show nmTok ((tkAt l i).1, (tkAt l i).2) = false from hn]
  have HB5 := Lib.hid (after HB4.out hb)
  have HX5 := Lib.hid ((⟨b0, b1, b2⟩ : TBx w4 (w.heap.size + 1) (tkAt l i) a).keep hb (World.block_lt_of_cell? _ _ b0))
  have HT5 := Lib.hid (tokU HT4.out hb)
  clear hb b0 b1 b2
  go_wp2_with fail
  refine (C.out _ HT5.out).mono ?_
  intro E w8 hP
  cases r with
  | bad j c =>
    obtain ⟨rfl, hb⟩ := hP
    have HB8 := Lib.hid (after HB5.out hb)
    clear hb
    obtain ⟨z0, z1, z2, z3, z4, r0, r1, r2, r3, r4, y0, y1, y2, y3, y4⟩ := ((Q.out _ _ _ _ _).bel HB8.out).facts
    have hq1 := ((Q.out _ _ _ _ _).bel HB8.out).lt
    have HF := Lib.hid (parse_fin zE none 0 0 HB8.out (zE_in _ _)).2
    go_wp2_with fail
    exact bodyPost_ret (v := .tuple #[S3.eV zE (.slice none 0 0), .int .i64 (j : Int), .int .i64 c]) (by simp [results, Tryz.results207, go_sem, zE, r0, r1, r2, r3, r4]) rfl ⟨rfl, HF.out⟩
  | ok e n =>
    obtain ⟨A, k, c, rfl, ho, hE, hb⟩ := hP
    have HB8 := Lib.hid (after HB5.out hb)
    have hL := HB5.out.size
    rw [S3.sz1] at hL
    have HE8 := Lib.hid (er_mono hE (show w.heap.size + 1 ≤ w5.heap.size by omega) (Nat.le_refl _))
    have HO8 := Lib.hid ho
    clear hb hE ho
    obtain ⟨z0, z1, z2, z3, z4, r0, r1, r2, r3, r4, y0, y1, y2, y3, y4⟩ := ((Q.out _ _ _ _ _).bel HB8.out).facts
    have hq1 := ((Q.out _ _ _ _ _).bel HB8.out).lt
    have HF := Lib.hid (parse_fin e A k c HB8.out HE8.out)
    go_wp2_with fail
    exact bodyPost_ret (v := .tuple #[S3.eV e (.slice A k c), .int .i64 (n : Int), .int .i64 0]) (by simp [results, Tryz.results207, go_sem, r0, r1, r2, r3, r4]) rfl ⟨A, k, c, rfl, HO8.out, HF.out.1, HF.out.2⟩
set_option maxRecDepth 100000 in
set_option maxHeartbeats 2000000 in
theorem rop_idx {w : World} {l : TL} {v : Value} (hT : TokL w w.heap.size v l) (_hll : l.length ≤ 1000000) (i : Nat) (hil : i < l.length) (d : Nat) (K1 : decide (tkAt l i = (3, [116, 114, 117, 101])) = false) (K2 : decide (tkAt l i = (3, [102, 97, 108, 115, 101])) = false) (K3 : decide (tkAt l i = (3, [108, 101, 110])) = false) (hk : (tkAt l i).1 ≠ 2) (hn : nmTok (tkAt l i) = true) (hs : sgAt l (i + 1) = [91]) (r : Res) (C : ∀ W, TokL W W.heap.size v l → Calls Tryz.prog 227 #[v, .int .i64 (i : Int), .int .i64 (d : Int)] W (PostP W r)) :
    Calls Tryz.prog 207 #[v, .int .i64 (i : Int), .int .i64 (d : Int)] w (PostP w (r)) := by
  obtain ⟨A, c, rfl⟩ := hT.val
  obtain ⟨_, htl, tb, og, a, rfl, htb, t0, t1, t2⟩ := hT.at3 i hil
  have hge : ¬ (l.length : Int) ≤ (i : Int) := by omega
  have HT1 := Lib.hid (tokU (tokU hT (S3.bal w zO)) (S3.bal (w.alloc zO) (tO (tkAt l i) a)))
  have HB1 := Lib.hid (S3.bal (w.alloc zO) (tO (tkAt l i) a))
  have X1 := TBx.new (w.alloc zO) (tkAt l i) a
  rw [S3.sz1] at X1
  have HX1 := Lib.hid X1
  have Q := Lib.hid (fun a0 a1 a2 a3 a4 => R5.new w a0 a1 a2 a3 a4)
  have hw1 : ((w.alloc zO).alloc (tO (tkAt l i) a)).heap.size = w.heap.size + 1 + 1 := by rw [S3.sz1, S3.sz1]
  clear X1 hT
  have q2 : ((tkAt l i).1 == 2) = false := beq_eq_false_iff_ne.2 hk
  have C := Lib.hid C
  have q6 : (sgAt l (i + 1) == [91]) = true := by rw [hs]; rfl
  go_enter Tryz.func207, Tryz.ntmps207
  try simp only [List.append_eq, List.cons_append, List.nil_append]
  go_wp2_with fail
  refine (rkw_is HT1.out K1 (by omega)).mono ?_
  rintro E w2 ⟨rfl, hb⟩
  have HB2 := Lib.hid (after HB1.out hb)
  have HX2 := Lib.hid (HX1.out.keep hb (by rw [hw1]; omega))
  have HT2 := Lib.hid (tokU HT1.out hb)
  clear hb
  go_wp2_with fail
  refine (rkw_is HT2.out K2 (by omega)).mono ?_
  rintro E w3 ⟨rfl, hb⟩
  have HB3 := Lib.hid (after HB2.out hb)
  have HX3 := Lib.hid (HX2.out.keep hb (by have := World.block_lt_of_cell? _ _ HX2.out.c0; exact this))
  have HT3 := Lib.hid (tokU HT2.out hb)
  clear hb
  go_wp2_with fail
  refine (rkw_is HT3.out K3 (by omega)).mono ?_
  rintro E w4 ⟨rfl, hb⟩
  have HB4 := Lib.hid (after HB3.out hb)
  have HX4 := Lib.hid (HX3.out.keep hb (by have := World.block_lt_of_cell? _ _ HX3.out.c0; exact this))
  have HT4 := Lib.hid (tokU HT3.out hb)
  clear hb
  obtain ⟨b0, b1, b2⟩ := HX4.out
  go_wp2_with fail
  refine (rnm_calls _ _ _ htl _).mono ?_
  rintro E w5 ⟨rfl, hb⟩
  rw [show nmTok ((tkAt l i).1, (tkAt l i).2) = true from hn]
  have HB5 := Lib.hid (after HB4.out hb)
  have HX5 := Lib.hid ((⟨b0, b1, b2⟩ : TBx w4 (w.heap.size + 1) (tkAt l i) a).keep hb (World.block_lt_of_cell? _ _ b0))
  have HT5 := Lib.hid (tokU HT4.out hb)
  clear hb b0 b1 b2
  go_wp2_with fail
  refine (rsg_is HT5.out q6 (by simp) (by omega)).mono ?_
  rintro E w6 ⟨rfl, hb⟩
  have HB6 := Lib.hid (after HB5.out hb)
  have HX6 := Lib.hid (HX5.out.keep hb (World.block_lt_of_cell? _ _ HX5.out.c0))
  have HT6 := Lib.hid (tokU HT5.out hb)
  clear hb
  go_wp2_with fail
  refine (C.out _ HT6.out).mono ?_
  intro E w8 hP
  cases r with
  | bad j c =>
    obtain ⟨rfl, hb⟩ := hP
    have HB8 := Lib.hid (after HB6.out hb)
    clear hb
    obtain ⟨z0, z1, z2, z3, z4, r0, r1, r2, r3, r4, y0, y1, y2, y3, y4⟩ := ((Q.out _ _ _ _ _).bel HB8.out).facts
    have hq1 := ((Q.out _ _ _ _ _).bel HB8.out).lt
    have HF := Lib.hid (parse_fin zE none 0 0 HB8.out (zE_in _ _)).2
    go_wp2_with fail
    exact bodyPost_ret (v := .tuple #[S3.eV zE (.slice none 0 0), .int .i64 (j : Int), .int .i64 c]) (by simp [results, Tryz.results207, go_sem, zE, r0, r1, r2, r3, r4]) rfl ⟨rfl, HF.out⟩
  | ok e n =>
    obtain ⟨A, k, c, rfl, ho, hE, hb⟩ := hP
    have HB8 := Lib.hid (after HB6.out hb)
    have hL := HB6.out.size
    rw [S3.sz1] at hL
    have HE8 := Lib.hid (er_mono hE (show w.heap.size + 1 ≤ w6.heap.size by omega) (Nat.le_refl _))
    have HO8 := Lib.hid ho
    clear hb hE ho
    obtain ⟨z0, z1, z2, z3, z4, r0, r1, r2, r3, r4, y0, y1, y2, y3, y4⟩ := ((Q.out _ _ _ _ _).bel HB8.out).facts
    have hq1 := ((Q.out _ _ _ _ _).bel HB8.out).lt
    have HF := Lib.hid (parse_fin e A k c HB8.out HE8.out)
    go_wp2_with fail
    exact bodyPost_ret (v := .tuple #[S3.eV e (.slice A k c), .int .i64 (n : Int), .int .i64 0]) (by simp [results, Tryz.results207, go_sem, r0, r1, r2, r3, r4]) rfl ⟨A, k, c, rfl, HO8.out, HF.out.1, HF.out.2⟩
set_option maxRecDepth 100000 in
set_option maxHeartbeats 2000000 in
theorem rop_var {w : World} {l : TL} {v : Value} (hT : TokL w w.heap.size v l) (_hll : l.length ≤ 1000000) (i : Nat) (hil : i < l.length) (d : Nat) (K1 : decide (tkAt l i = (3, [116, 114, 117, 101])) = false) (K2 : decide (tkAt l i = (3, [102, 97, 108, 115, 101])) = false) (K3 : decide (tkAt l i = (3, [108, 101, 110])) = false) (hk : (tkAt l i).1 ≠ 2) (hn : nmTok (tkAt l i) = true) (hs : sgAt l (i + 1) ≠ [91]) :
    Calls Tryz.prog 207 #[v, .int .i64 (i : Int), .int .i64 (d : Int)] w (PostP w (.ok ⟨3, 0, 0, (tkAt l i).2, []⟩ (i + 1))) := by
  obtain ⟨A, c, rfl⟩ := hT.val
  obtain ⟨_, htl, tb, og, a, rfl, htb, t0, t1, t2⟩ := hT.at3 i hil
  have hge : ¬ (l.length : Int) ≤ (i : Int) := by omega
  have HT1 := Lib.hid (tokU (tokU hT (S3.bal w zO)) (S3.bal (w.alloc zO) (tO (tkAt l i) a)))
  have HB1 := Lib.hid (S3.bal (w.alloc zO) (tO (tkAt l i) a))
  have X1 := TBx.new (w.alloc zO) (tkAt l i) a
  rw [S3.sz1] at X1
  have HX1 := Lib.hid X1
  have Q := Lib.hid (fun a0 a1 a2 a3 a4 => R5.new w a0 a1 a2 a3 a4)
  have hw1 : ((w.alloc zO).alloc (tO (tkAt l i) a)).heap.size = w.heap.size + 1 + 1 := by rw [S3.sz1, S3.sz1]
  clear X1 hT
  have q2 : ((tkAt l i).1 == 2) = false := beq_eq_false_iff_ne.2 hk
  have q6 : (sgAt l (i + 1) == [91]) = false := beq_eq_false_iff_ne.2 hs
  go_enter Tryz.func207, Tryz.ntmps207
  try simp only [List.append_eq, List.cons_append, List.nil_append]
  go_wp2_with fail
  refine (rkw_is HT1.out K1 (by omega)).mono ?_
  rintro E w2 ⟨rfl, hb⟩
  have HB2 := Lib.hid (after HB1.out hb)
  have HX2 := Lib.hid (HX1.out.keep hb (by rw [hw1]; omega))
  have HT2 := Lib.hid (tokU HT1.out hb)
  clear hb
  go_wp2_with fail
  refine (rkw_is HT2.out K2 (by omega)).mono ?_
  rintro E w3 ⟨rfl, hb⟩
  have HB3 := Lib.hid (after HB2.out hb)
  have HX3 := Lib.hid (HX2.out.keep hb (by have := World.block_lt_of_cell? _ _ HX2.out.c0; exact this))
  have HT3 := Lib.hid (tokU HT2.out hb)
  clear hb
  go_wp2_with fail
  refine (rkw_is HT3.out K3 (by omega)).mono ?_
  rintro E w4 ⟨rfl, hb⟩
  have HB4 := Lib.hid (after HB3.out hb)
  have HX4 := Lib.hid (HX3.out.keep hb (by have := World.block_lt_of_cell? _ _ HX3.out.c0; exact this))
  have HT4 := Lib.hid (tokU HT3.out hb)
  clear hb
  obtain ⟨b0, b1, b2⟩ := HX4.out
  go_wp2_with fail
  refine (rnm_calls _ _ _ htl _).mono ?_
  rintro E w5 ⟨rfl, hb⟩
  rw [show nmTok ((tkAt l i).1, (tkAt l i).2) = true from hn]
  have HB5 := Lib.hid (after HB4.out hb)
  have HX5 := Lib.hid ((⟨b0, b1, b2⟩ : TBx w4 (w.heap.size + 1) (tkAt l i) a).keep hb (World.block_lt_of_cell? _ _ b0))
  have HT5 := Lib.hid (tokU HT4.out hb)
  clear hb b0 b1 b2
  go_wp2_with fail
  refine (rsg_is HT5.out q6 (by simp) (by omega)).mono ?_
  rintro E w6 ⟨rfl, hb⟩
  have HB6 := Lib.hid (after HB5.out hb)
  have HX6 := Lib.hid (HX5.out.keep hb (World.block_lt_of_cell? _ _ HX5.out.c0))
  have HT6 := Lib.hid (tokU HT5.out hb)
  clear hb
  obtain ⟨b0, b1, b2⟩ := HX6.out
  have HO := Lib.hid (okE_leaf (k := 3) (n := 0) (s := (tkAt l i).2) (by decide) (by unfold S3.okI; omega) htl)
  obtain ⟨z0, z1, z2, z3, z4, r0, r1, r2, r3, r4, y0, y1, y2, y3, y4⟩ := ((Q.out _ _ _ _ _).bel HB6.out).facts
  have hq1 := ((Q.out _ _ _ _ _).bel HB6.out).lt
  have HF := Lib.hid (parse_fin ⟨3, 0, 0, (tkAt l i).2, []⟩ none 0 0 HB6.out (er_nil _ _))
  go_wp2_with fail
  exact bodyPost_ret (v := .tuple #[S3.eV ⟨3, 0, 0, (tkAt l i).2, []⟩ (.slice none 0 0), .int .i64 ((i : Int) + 1), .int .i64 0]) (by simp [results, Tryz.results207, go_sem, r0, r1, r2, r3, r4]) rfl ⟨none, 0, 0, by rw [show ((i + 1 : Nat) : Int) = (i : Int) + 1 by omega], HO.out, HF.out.1, HF.out.2⟩
end Go.Proofs.YtoldhocdfkndbaaGreatDoor.E5

namespace Go.Proofs.YtoldhocdfkndbaaGreatDoor.E5
open Go Go.RowKit Go.Proofs.YtoldhocdfkndbaaGreatDoor

/-! ### errors are errors -/
def Res.cd : Res → Prop
  | .ok _ _ => True
  | .bad _ c => c ≠ 0
theorem cd_bind {r : Res} {f : Ex → Nat → Res} (h : r.cd) (hf : ∀ e n, (f e n).cd) : (r.bind f).cd := by
  cases r with
  | ok e n => exact hf e n
  | bad j c => exact h
theorem cd_made (e : Ex) (n : Nat) : (madeR e n).cd := by
  unfold madeR
  split
  · trivial
  · show (8 : Int) ≠ 0
    decide
theorem cd7 (j : Nat) : (Res.bad j 7).cd := by show (7 : Int) ≠ 0; decide
theorem cd8 (j : Nat) : (Res.bad j 8).cd := by show (8 : Int) ≠ 0; decide
theorem cd_num (l : TL) (i : Nat) : (numR l i).cd := by
  unfold numR
  split
  · trivial
  · exact cd7 _
theorem cd_len (l : TL) (i : Nat) : (lenR l i).cd := by
  unfold lenR
  repeat' split
  all_goals first | trivial | exact cd7 _
theorem cd_key (l : TL) (i : Nat) : (keyR l i).cd := by
  unfold keyR
  repeat' split
  all_goals first | trivial | exact cd_len _ _ | exact cd7 _
theorem cd_all (l : TL) : ∀ f, (∀ i d, (opd l f i d).cd) ∧ (∀ i d m, (bin l f i d m).cd) ∧ (∀ e i d m, (lop l f e i d m).cd) := by
  intro f
  induction f with
  | zero => exact ⟨fun i d => by rw [opd]; exact cd7 _, fun i d m => by rw [bin]; exact cd7 _, fun e i d m => by rw [lop]; exact cd7 _⟩
  | succ f ih =>
    obtain ⟨h1, h2, h3⟩ := ih
    refine ⟨fun i d => ?_, fun i d m => ?_, fun e i d m => ?_⟩
    · rw [opd]
      repeat' split
      all_goals first
        | exact cd_num _ _
        | exact cd_key _ _
        | exact cd7 _
        | exact cd8 _
        | trivial
        | exact cd_bind (h1 _ _) (fun e n => cd_made _ _)
        | (refine cd_bind (h2 _ _ _) (fun e n => ?_); split <;> first | exact cd_made _ _ | exact cd7 _ | trivial)
    · rw [bin]
      exact cd_bind (h1 _ _) fun e n => h3 _ _ _ _
    · rw [lop]
      split
      · trivial
      · exact cd_bind (h2 _ _ _) fun x n => cd_bind (cd_made _ _) fun y k => h3 _ _ _ _
theorem cd_bin (l : TL) (i d : Nat) (m : Int) : (binR l i d m).cd := (cd_all l _).2.1 i d m
theorem cd_opd (l : TL) (i d : Nat) : (opdR l i d).cd := (cd_all l _).1 i d
/-- What has been read after some operators: e, in block q. -/
structure BI (w : World) (l : TL) (v : Value) (d q : Nat) (r : Res) (m : Int) (e : Ex) (A : Option Addr) (k c n : Nat) (wr : World) : Prop where
  tok : TokL wr w.heap.size v l
  one : 1 ≤ n
  le : n ≤ l.length
  ok : S3.OkE e
  row : wr.heap[q]? = some (.cells #[.int .i64 e.kind, .int .i64 e.op, .int .i64 e.num, .string (S3.B e.name), .slice A k c] 32 (0, 0))
  er : S3.ER wr (Rx q (w.heap.size + 1) wr.heap.size) e.args (.slice A k c)
  res : R5 wr w.heap.size
  bel : Below w.heap.size w wr
  lop : r = lopR l e n d m
theorem BI.mv {w : World} {l : TL} {v : Value} {d q : Nat} {r : Res} {m : Int} {e : Ex} {A : Option Addr} {k c n : Nat} {wr wr' : World} (h : BI w l v d q r m e A k c n wr) (hb : Below wr.heap.size wr wr') : BI w l v d q r m e A k c n wr' :=
  ⟨h.tok.keep (Nat.le_refl _) (fun b i hx => hb.cell (p := ⟨b, i, none⟩) (Nat.lt_of_lt_of_le hx h.bel.size)), h.one, h.le, h.ok, (hb.block q (row5_lt h.row)).trans h.row, h.er.keep (fun _ hx => ⟨hx.1, Nat.lt_of_lt_of_le hx.2.1 hb.size, hx.2.2⟩) (fun _ _ hx => hb.cell hx.2.1), h.res.bel hb, after h.bel hb, h.lop⟩
theorem BI.tk {w : World} {l : TL} {v : Value} {d q : Nat} {r : Res} {m : Int} {e : Ex} {A : Option Addr} {k c n : Nat} {wr : World} (h : BI w l v d q r m e A k c n wr) : TokL wr wr.heap.size v l := h.tok.keep h.bel.size fun _ _ _ => rfl
theorem BI.next {w : World} {l : TL} {v : Value} {d q : Nat} {r : Res} {m : Int} {e : Ex} {A : Option Addr} {k c n : Nat} {wg : World} (hq : w.heap.size + 1 ≤ q) (tok : TokL wg w.heap.size v l) (one : 1 ≤ n) (le : n ≤ l.length) (ok : S3.OkE e) (pg : R5 wg q)
    (er : S3.ER wg (Rx q (w.heap.size + 1) wg.heap.size) e.args (.slice A k c)) (res : R5 wg w.heap.size) (bel : Below w.heap.size w wg) (hl : r = lopR l e n d m) :
    BI w l v d q r m e A k c n (put5 wg q (.int .i64 e.kind) (.int .i64 e.op) (.int .i64 e.num) (.string (S3.B e.name)) (.slice A k c)) := by
  have h2 := put5_row pg (.int .i64 e.kind) (.int .i64 e.op) (.int .i64 e.num) (.string (S3.B e.name)) (.slice A k c)
  have h3 := res.put (show w.heap.size ≠ q by omega) (.int .i64 e.kind) (.int .i64 e.op) (.int .i64 e.num) (.string (S3.B e.name)) (.slice A k c)
  have h4 := put5_below bel (show w.heap.size ≤ q by omega) (.int .i64 e.kind) (.int .i64 e.op) (.int .i64 e.num) (.string (S3.B e.name)) (.slice A k c)
  have h5 := put5_size wg q (.int .i64 e.kind) (.int .i64 e.op) (.int .i64 e.num) (.string (S3.B e.name)) (.slice A k c)
  have h6 := put5_heap wg q (.int .i64 e.kind) (.int .i64 e.op) (.int .i64 e.num) (.string (S3.B e.name)) (.slice A k c)
  generalize put5 wg q (.int .i64 e.kind) (.int .i64 e.op) (.int .i64 e.num) (.string (S3.B e.name)) (.slice A k c) = wh at *
  exact ⟨tok.keep (Nat.le_refl _) (fun b i hx => World.cell?_of_block (w := wg) (a := ⟨b, i, none⟩) (h6 b (by omega))), one, le, ok, h2, er.keep (fun y hy => ⟨hy.1, by rw [h5]; exact hy.2.1, hy.2.2⟩) (fun y _ hy => World.cell?_of_block (w := wg) (h6 y hy.2.2)), h3, h4, hl⟩
theorem sg_kind {l : TL} {n : Nat} (h : (tkAt l n).1 ≠ 4) : sgAt l n = [] := if_neg h
theorem rank0 {l : TL} {n : Nat} {m : Int} (hm : 1 ≤ m) (h : sgAt l n = []) : (opB (sgAt l n)).2 < m := by rw [h, opB_nil]; simp only; omega
set_option maxRecDepth 100000 in
set_option maxHeartbeats 2000000 in
theorem rbin_bad {w : World} {l : TL} {v : Value} (hT : TokL w w.heap.size v l) (i d : Nat) (m : Int) (j : Nat) (c : Int) (hc : c ≠ 0)
    (C : ∀ W, TokL W W.heap.size v l → Calls Tryz.prog 207 #[v, .int .i64 (i : Int), .int .i64 (d : Int)] W (PostP W (.bad j c))) :
    Calls Tryz.prog 194 #[v, .int .i64 (i : Int), .int .i64 (d : Int), .int .i64 m] w (PostP w (.bad j c)) := by
  have HT0 := Lib.hid (fun o => tokU hT (S3.bal w o))
  have Q := Lib.hid (fun a0 a1 a2 a3 a4 => R5.new w a0 a1 a2 a3 a4)
  have C := Lib.hid C
  have hq : (c == 0) = false := beq_eq_false_iff_ne.2 hc
  clear hT
  go_enter Tryz.func194, Tryz.ntmps194
  try simp only [List.append_eq, List.cons_append, List.nil_append]
  go_wp2_with fail
  refine (C.out (w.alloc zO) (HT0.out zO)).mono ?_
  rintro E w1 ⟨rfl, hb⟩
  have HB1 := Lib.hid hb
  clear hb
  obtain ⟨z0, z1, z2, z3, z4, r0, r1, r2, r3, r4, y0, y1, y2, y3, y4⟩ := ((Q.out _ _ _ _ _).bel HB1.out).facts
  have hq1 := ((Q.out _ _ _ _ _).bel HB1.out).lt
  have S5 := fun o => put5_al ((Q.out _ _ _ _ _).bel HB1.out) (.int .i64 0) (.int .i64 0) (.int .i64 0) (.string ⟨#[]⟩) (.slice none 0 0) o
  have s0 := fun o => (S5 o).1
  have s1 := fun o => (S5 o).2.1
  have s2 := fun o => (S5 o).2.2.1
  have s3 := fun o => (S5 o).2.2.2.1
  have s4 := fun o => (S5 o).2.2.2.2
  have HF := Lib.hid (fun o => Below.alloc (parse_fin zE none 0 0 HB1.out (zE_in _ _)).2 (by rw [put5_size]; omega) o)
  clear S5
  go_wp2_with fail
  exact bodyPost_ret (v := .tuple #[S3.eV zE (.slice none 0 0), .int .i64 (j : Int), .int .i64 c]) (by simp [results, Tryz.results194, go_sem, zE, s0, s1, s2, s3, s4]) rfl ⟨rfl, HF.out _⟩
/-- The end, whatever led there: what lies in block q is put into the result. -/
theorem BI.fin {w : World} {l : TL} {v : Value} {d q : Nat} {r : Res} {m : Int} {e : Ex} {A : Option Addr} {k c n : Nat} {wr : World} (h : BI w l v d q r m e A k c n wr) :
    S3.ER (put5 wr w.heap.size (.int .i64 e.kind) (.int .i64 e.op) (.int .i64 e.num) (.string (S3.B e.name)) (.slice A k c)) (Rn w.heap.size (put5 wr w.heap.size (.int .i64 e.kind) (.int .i64 e.op) (.int .i64 e.num) (.string (S3.B e.name)) (.slice A k c)).heap.size) e.args (.slice A k c) ∧
    Below w.heap.size w (put5 wr w.heap.size (.int .i64 e.kind) (.int .i64 e.op) (.int .i64 e.num) (.string (S3.B e.name)) (.slice A k c)) := by
  have h2 := put5_below h.bel (Nat.le_refl w.heap.size) (.int .i64 e.kind) (.int .i64 e.op) (.int .i64 e.num) (.string (S3.B e.name)) (.slice A k c)
  have h5 := put5_size wr w.heap.size (.int .i64 e.kind) (.int .i64 e.op) (.int .i64 e.num) (.string (S3.B e.name)) (.slice A k c)
  have h6 := put5_heap wr w.heap.size (.int .i64 e.kind) (.int .i64 e.op) (.int .i64 e.num) (.string (S3.B e.name)) (.slice A k c)
  have her := h.er
  generalize put5 wr w.heap.size (.int .i64 e.kind) (.int .i64 e.op) (.int .i64 e.num) (.string (S3.B e.name)) (.slice A k c) = wh at *
  exact ⟨her.keep (fun y hy => ⟨by have := hy.1; omega, by rw [h5]; exact hy.2.1⟩) (fun y _ hy => World.cell?_of_block (w := wr) (h6 y (by have := hy.1; omega))), h2⟩
set_option maxRecDepth 100000 in
set_option maxHeartbeats 8000000 in
theorem rbin_ok {w : World} {l : TL} {v : Value} (hT : TokL w w.heap.size v l) (hll : l.length ≤ 1000000) (i d : Nat) (_hd : d ≤ 9223372036854775807) (m : Int) (hm : 1 ≤ m) (hm6 : m ≤ 6) (e0 : Ex) (n0 : Nat) (hn0 : i < n0) (hn0l : n0 ≤ l.length) (r : Res) (hr : r = lopR l e0 n0 d m)
    (C : ∀ W, TokL W W.heap.size v l → Calls Tryz.prog 207 #[v, .int .i64 (i : Int), .int .i64 (d : Int)] W (PostP W (.ok e0 n0)))
    (CB : ∀ j m', i < j → j ≤ l.length → 1 ≤ m' → m' ≤ 6 → BIR l v j d m') :
    Calls Tryz.prog 194 #[v, .int .i64 (i : Int), .int .i64 (d : Int), .int .i64 m] w (PostP w r) := by
  obtain ⟨TA, Tc, rfl⟩ := hT.val
  have HT0 := Lib.hid (fun o => tokU hT (S3.bal w o))
  have HTW := Lib.hid hT
  have Q := Lib.hid (fun a0 a1 a2 a3 a4 => R5.new w a0 a1 a2 a3 a4)
  have C := Lib.hid C
  have CB := Lib.hid CB
  have HR := Lib.hid hr
  clear hT hr
  go_enter Tryz.func194, Tryz.ntmps194
  try simp only [List.append_eq, List.cons_append, List.nil_append]
  go_wp2_with fail
  refine (C.out (w.alloc zO) (HT0.out zO)).mono ?_
  rintro E w1 ⟨A0, k0, c0, rfl, ho, hE, hb⟩
  have hz1 := hb.size
  rw [S3.sz1] at hz1
  have H1 := Lib.hid (show BI w l (.slice TA l.length Tc) d w1.heap.size r m e0 A0 k0 c0 n0 (w1.alloc (S3.eO e0 (.slice A0 k0 c0))) from
    ⟨(HTW.out.bel ((after (S3.bal w zO) hb))).bel ((S3.bal w1 _).mono (by omega)), by omega, hn0l, ho, heap_alloc_new w1 _, hE.keep (fun x hx => ⟨by have := hx.1; rw [S3.sz1] at this; exact this, by rw [S3.sz1]; have := hx.2; omega, by have := hx.2; omega⟩) (fun _ _ hx => (S3.bal w1 _).cell hx.2),
      ((Q.out _ _ _ _ _).bel hb).bel (S3.bal w1 _), after (after (S3.bal w zO) hb) (S3.bal w1 _), HR.out⟩)
  clear ho hE hb C Q HR HT0
  generalize hq : w1.heap.size = q at *
  go_wp2_with fail
  generalize w1.alloc (S3.eO e0 (.slice A0 k0 c0)) = w2 at *
  go_loopw [12] (fun nx wr => ∃ (e : Ex) (A : Option Addr) (k c n : Nat), nx = .int .i64 (n : Int) ∧ Hid (BI w l (.slice TA l.length Tc) d q r m e A k c n wr) ∧ i < n) (fun nx _ => l.length - (intOf nx).toNat)
  case atStart => exact ⟨e0, A0, k0, c0, n0, rfl, H1, hn0⟩
  case round =>
    clear H1
    obtain ⟨e, A, k, c, n, rfl, HI, hin⟩ := hrel
    have hnl0 := HI.out.le
    rcases Nat.lt_or_ge n l.length with hlt | hge
    · obtain ⟨_, htl, tb, og, ta, e9, htb, t0, t1, t2⟩ := HI.out.tk.at3 n hlt
      cases e9
      have hlt' : (n : Int) < (l.length : Int) := by omega
      by_cases hk : (tkAt l n).1 = 4
      · have hsg : sgAt l n = (tkAt l n).2 := if_pos hk
        have q4 : ((tkAt l n).1 == 4) = true := by rw [hk]; rfl
        by_cases hrk : (opB (sgAt l n)).2 < m
        · obtain rfl : r = .ok e n := HI.out.lop.trans (lopR_end l e n d m hrk)
          have hor := opB_rank (sgAt l n)
          rw [hsg] at hrk hor
          clear hsg
          go_wp2_with fail
          refine (refop_calls (tkAt l n).2 _).mono ?_
          rintro E wa ⟨rfl, hb⟩
          have HIa := Lib.hid (HI.out.mv hb)
          clear hb HI t0 t1 t2
          generalize (opB (tkAt l n).2).2 = rk at *
          generalize (opB (tkAt l n).2).1 = op at *
          by_cases hop : op = 0
          · have q5 : (op == 0) = true := by rw [hop]; rfl
            obtain ⟨z0, z1, z2, z3, z4, r0, r1, r2, r3, r4, y0, y1, y2, y3, y4⟩ := HIa.out.res.facts
            have hres := HIa.out.res.lt
            obtain ⟨e0, e1, e2, e3, e4⟩ := row5_facts HIa.out.row
            have hqr := row5_lt HIa.out.row
            have HF := Lib.hid HIa.out.fin
            have HO := Lib.hid HIa.out.ok
            go_wp2_with fail
            exact bodyPost_ret (v := .tuple #[S3.eV e (.slice A k c), .int .i64 (n : Int), .int .i64 0]) (by simp [results, Tryz.results194, go_sem, r0, r1, r2, r3, r4]) rfl ⟨A, k, c, rfl, HO.out, HF.out.1, HF.out.2⟩
          · have q5 : (op == 0) = false := beq_eq_false_iff_ne.2 hop
            obtain ⟨z0, z1, z2, z3, z4, r0, r1, r2, r3, r4, y0, y1, y2, y3, y4⟩ := HIa.out.res.facts
            have hres := HIa.out.res.lt
            obtain ⟨e0, e1, e2, e3, e4⟩ := row5_facts HIa.out.row
            have hqr := row5_lt HIa.out.row
            have HF := Lib.hid HIa.out.fin
            have HO := Lib.hid HIa.out.ok
            go_wp2_with fail
            exact bodyPost_ret (v := .tuple #[S3.eV e (.slice A k c), .int .i64 (n : Int), .int .i64 0]) (by simp [results, Tryz.results194, go_sem, r0, r1, r2, r3, r4]) rfl ⟨A, k, c, rfl, HO.out, HF.out.1, HF.out.2⟩
        · have hlop := HI.out.lop.trans (lopR_eq l e n d m HI.out.one hm hrk)
          have hrank : 1 ≤ (opB (sgAt l n)).2 ∧ (opB (sgAt l n)).2 ≤ 5 ∧ 1 ≤ (opB (sgAt l n)).1 ∧ (opB (sgAt l n)).1 ≤ 13 := by
            rcases opB_rank (sgAt l n) with h1 | h1
            · rw [h1] at hrk; simp only at hrk; omega
            · exact h1
          have CBn := CB.out (n + 1) ((opB (sgAt l n)).2 + 1) (by omega) hlt (by omega) (by omega)
          have hwin := binR_within l (n + 1) d ((opB (sgAt l n)).2 + 1) (by omega) hlt
          have hcd := cd_bin l (n + 1) d ((opB (sgAt l n)).2 + 1)
          have q5 : ((opB (sgAt l n)).1 == 0) = false := beq_eq_false_iff_ne.2 (by omega)
          unfold BIR at CBn
          cases hB : binR l (n + 1) d ((opB (sgAt l n)).2 + 1) with
          | bad j c' =>
            rw [hB] at hlop CBn hcd
            obtain rfl : r = .bad j c' := hlop
            rw [hsg] at hrk hrank CBn q5
            have CBn := Lib.hid CBn
            have hq' : (c' == 0) = false := beq_eq_false_iff_ne.2 hcd
            clear hB hwin hsg
            go_wp2_with fail
            refine (refop_calls (tkAt l n).2 _).mono ?_
            rintro E wa ⟨rfl, hb⟩
            have HIa := Lib.hid (HI.out.mv hb)
            clear hb HI t0 t1 t2
            generalize (opB (tkAt l n).2).2 = rk at *
            generalize (opB (tkAt l n).2).1 = op at *
            go_wp2_with fail
            rw [show (n : Int) + 1 = ((n + 1 : Nat) : Int) by omega]
            refine (CBn.out wa HIa.out.tk).mono ?_
            rintro E wd ⟨rfl, hb⟩
            have HId := Lib.hid (HIa.out.mv hb)
            clear hb HIa
            obtain ⟨z0, z1, z2, z3, z4, r0, r1, r2, r3, r4, y0, y1, y2, y3, y4⟩ := HId.out.res.facts
            have hres := HId.out.res.lt
            have S5 := fun o => put5_al HId.out.res (.int .i64 0) (.int .i64 0) (.int .i64 0) (.string ⟨#[]⟩) (.slice none 0 0) o
            have s0 := fun o => (S5 o).1
            have s1 := fun o => (S5 o).2.1
            have s2 := fun o => (S5 o).2.2.1
            have s3 := fun o => (S5 o).2.2.2.1
            have s4 := fun o => (S5 o).2.2.2.2
            have HF := Lib.hid (fun o => Below.alloc (put5_below HId.out.bel (Nat.le_refl w.heap.size) (.int .i64 0) (.int .i64 0) (.int .i64 0) (.string ⟨#[]⟩) (.slice none 0 0)) (by rw [put5_size]; omega) o)
            clear S5
            go_wp2_with fail
            exact bodyPost_ret (v := .tuple #[S3.eV zE (.slice none 0 0), .int .i64 (j : Int), .int .i64 c']) (by simp [results, Tryz.results194, go_sem, zE, s0, s1, s2, s3, s4]) rfl ⟨rfl, HF.out _⟩
          | ok x n1 =>
            rw [hB] at hlop CBn hwin
            simp only [Res.within] at hwin
            have hok5 := Lib.hid (okE_op (k := 5) (op := (opB (sgAt l n)).1) (s := []) (args := [e, x]) (by decide) (okI_small (by omega) (by omega)) (by simp))
            rw [hsg] at hrk hrank CBn q5 hok5
            simp only [Res.bind, madeR] at hlop
            rw [hsg] at hlop
            have CBn := Lib.hid CBn
            clear hB hsg hcd
            by_cases hx : S3.exB ⟨5, (opB (tkAt l n).2).1, 0, [], [e, x]⟩ = true
            · rw [if_pos hx] at hlop
              simp only at hlop
              have HLop := Lib.hid hlop
              clear hlop
              go_wp2_with fail
              refine (refop_calls (tkAt l n).2 _).mono ?_
              rintro E wa ⟨rfl, hb⟩
              have HIa := Lib.hid (HI.out.mv hb)
              clear hb HI t0 t1 t2
              generalize (opB (tkAt l n).2).2 = rk at *
              generalize (opB (tkAt l n).2).1 = op at *
              go_wp2_with fail
              rw [show (n : Int) + 1 = ((n + 1 : Nat) : Int) by omega]
              refine (CBn.out wa HIa.out.tk).mono ?_
              rintro E wd ⟨A1, k1, c1, rfl, ho1, hE1, hb⟩
              have HId := HIa.out.mv hb
              have hqa := row5_lt HIa.out.row
              have hqd := row5_lt HId.row
              have EX := er_two' (w := wd.alloc (S3.eO x (.slice A1 k1 c1))) (R := Rx q (w.heap.size + 1) wd.heap.size) (R' := Rx q (w.heap.size + 1) (wd.heap.size + 1 + 1)) HId.ok ho1 (fun y hy => ⟨⟨hy.1, by have := hy.2.1; omega, hy.2.2⟩, by rw [S3.sz1]; have := hy.2.1; omega⟩) ⟨by rw [S3.sz1]; omega, by rw [S3.sz1]; omega, by rw [S3.sz1]; omega⟩ (HId.er.keep (fun _ hy => hy) (fun _ _ hy => (S3.bal wd _).cell hy.2.1)) (hE1.keep (fun y hy => ⟨by have := hy.1; omega, hy.2, by have := hy.1; omega⟩) (fun _ _ hy => (S3.bal wd _).cell hy.2))
              rw [S3.sz1] at EX
              have EX := Lib.hid EX
              have HSX := Lib.hid (show ((wd.alloc (S3.eO x (.slice A1 k1 c1))).alloc (eO2 e (.slice A k c) x (.slice A1 k1 c1))).heap.size = wd.heap.size + 1 + 1 by rw [S3.sz1, S3.sz1])
              have b1 := S3.bal wd (S3.eO x (.slice A1 k1 c1))
              have b2 := S3.bal (wd.alloc (S3.eO x (.slice A1 k1 c1))) (eO2 e (.slice A k c) x (.slice A1 k1 c1))
              have QX := Lib.hid ((HId.res.bel b1).bel b2)
              have PX := Lib.hid (((show R5 wd q from ⟨_, _, _, _, _, HId.row⟩).bel b1).bel b2)
              have BX := Lib.hid (after (after HId.bel b1) b2)
              have TX := Lib.hid ((HId.mv b1).mv b2).tok
              have hwd := HId.bel.size
              obtain ⟨e0, e1, e2, e3, e4⟩ := row5_facts HId.row
              clear hb HIa HId hE1 ho1 b1 b2
              go_wp2_with fail
              generalize (wd.alloc (S3.eO x (.slice A1 k1 c1))).alloc (eO2 e (.slice A k c) x (.slice A1 k1 c1)) = wx at *
              refine (rmade_yes ⟨5, op, 0, [], [e, x]⟩ hok5.out hx _ 2 2 (n1 : Int) (by omega) (by omega) wx (EX.out.keep (fun y hy => by have := hy.2.1; rw [HSX.out]; exact this) fun _ _ _ => rfl)).mono ?_
              rintro E wg ⟨rfl, hb⟩
              have hzg := hb.size
              rw [HSX.out] at hzg
              have PG := PX.out.bel hb
              have EG := EX.out.keep (R' := Rx q (w.heap.size + 1) wg.heap.size) (fun y hy => ⟨hy.1, Nat.lt_of_lt_of_le hy.2.1 hzg, hy.2.2⟩) (fun y j hy => hb.cell (p := ⟨y, j, none⟩) (by rw [HSX.out]; exact hy.2.1))
              have HN := Lib.hid (BI.next (r := r) (m := m) (d := d) (e := ⟨5, op, 0, [], [e, x]⟩) (n := n1) hz1 (TX.out.keep (Nat.le_refl _) (fun b i hx => hb.cell (p := ⟨b, i, none⟩) (by rw [HSX.out]; show b < _; omega))) (by omega) hwin.2 hok5.out PG EG (QX.out.bel hb) (after BX.out hb) HLop.out)
              dsimp only [put5] at HN
              obtain ⟨z0, z1, z2, z3, z4, r0, r1, r2, r3, r4, y0, y1, y2, y3, y4⟩ := PG.facts
              clear hb PG EG EX TX PX QX BX
              go_wp2_with fail
              go_roundw
              case rel => exact ⟨_, _, _, _, _, rfl, HN, by omega⟩
              case measure => simp [intOf]; omega
            · simp only [Bool.not_eq_true] at hx
              rw [if_neg (by rw [hx]; decide)] at hlop
              obtain rfl : r = .bad (n1 - 1) 8 := hlop
              go_wp2_with fail
              refine (refop_calls (tkAt l n).2 _).mono ?_
              rintro E wa ⟨rfl, hb⟩
              have HIa := Lib.hid (HI.out.mv hb)
              clear hb HI t0 t1 t2
              generalize (opB (tkAt l n).2).2 = rk at *
              generalize (opB (tkAt l n).2).1 = op at *
              go_wp2_with fail
              rw [show (n : Int) + 1 = ((n + 1 : Nat) : Int) by omega]
              refine (CBn.out wa HIa.out.tk).mono ?_
              rintro E wd ⟨A1, k1, c1, rfl, ho1, hE1, hb⟩
              have HId := HIa.out.mv hb
              have hqa := row5_lt HIa.out.row
              have hqd := row5_lt HId.row
              have EX := er_two' (w := wd.alloc (S3.eO x (.slice A1 k1 c1))) (R := Rx q (w.heap.size + 1) wd.heap.size) (R' := Rx q (w.heap.size + 1) (wd.heap.size + 1 + 1)) HId.ok ho1 (fun y hy => ⟨⟨hy.1, by have := hy.2.1; omega, hy.2.2⟩, by rw [S3.sz1]; have := hy.2.1; omega⟩) ⟨by rw [S3.sz1]; omega, by rw [S3.sz1]; omega, by rw [S3.sz1]; omega⟩ (HId.er.keep (fun _ hy => hy) (fun _ _ hy => (S3.bal wd _).cell hy.2.1)) (hE1.keep (fun y hy => ⟨by have := hy.1; omega, hy.2, by have := hy.1; omega⟩) (fun _ _ hy => (S3.bal wd _).cell hy.2))
              rw [S3.sz1] at EX
              have EX := Lib.hid EX
              have HSX := Lib.hid (show ((wd.alloc (S3.eO x (.slice A1 k1 c1))).alloc (eO2 e (.slice A k c) x (.slice A1 k1 c1))).heap.size = wd.heap.size + 1 + 1 by rw [S3.sz1, S3.sz1])
              have b1 := S3.bal wd (S3.eO x (.slice A1 k1 c1))
              have b2 := S3.bal (wd.alloc (S3.eO x (.slice A1 k1 c1))) (eO2 e (.slice A k c) x (.slice A1 k1 c1))
              have QX := Lib.hid ((HId.res.bel b1).bel b2)
              have PX := Lib.hid (((show R5 wd q from ⟨_, _, _, _, _, HId.row⟩).bel b1).bel b2)
              have BX := Lib.hid (after (after HId.bel b1) b2)
              have TX := Lib.hid ((HId.mv b1).mv b2).tok
              have hwd := HId.bel.size
              obtain ⟨e0, e1, e2, e3, e4⟩ := row5_facts HId.row
              clear hb HIa HId hE1 ho1 b1 b2
              go_wp2_with fail
              generalize (wd.alloc (S3.eO x (.slice A1 k1 c1))).alloc (eO2 e (.slice A k c) x (.slice A1 k1 c1)) = wx at *
              refine (rmade_no ⟨5, op, 0, [], [e, x]⟩ hok5.out hx _ 2 2 (n1 : Int) (by omega) (by omega) wx (EX.out.keep (fun y hy => by have := hy.2.1; rw [HSX.out]; exact this) fun _ _ _ => rfl)).mono ?_
              rintro E wg ⟨rfl, hb⟩
              have hzg := hb.size
              rw [HSX.out] at hzg
              have PG := PX.out.bel hb
              have RG := QX.out.bel hb
              have HBg := Lib.hid (put5_below (put5_below (after BX.out hb) (show w.heap.size ≤ q by omega) (.int .i64 0) (.int .i64 0) (.int .i64 0) (.string ⟨#[]⟩) (.slice none 0 0)) (Nat.le_refl w.heap.size) (.int .i64 0) (.int .i64 0) (.int .i64 0) (.string ⟨#[]⟩) (.slice none 0 0))
              have RP := RG.put (show w.heap.size ≠ q by omega) (.int .i64 0) (.int .i64 0) (.int .i64 0) (.string ⟨#[]⟩) (.slice none 0 0)
              obtain ⟨z0, z1, z2, z3, z4, r0, r1, r2, r3, r4, y0, y1, y2, y3, y4⟩ := PG.facts
              obtain ⟨z0', z1', z2', z3', z4', r0', r1', r2', r3', r4', y0', y1', y2', y3', y4'⟩ := RG.facts
              have hqg := PG.lt
              have hwg := RG.lt
              clear hb PG RG EX TX PX QX BX RP
              go_wp2_with fail
              exact bodyPost_ret (v := .tuple #[S3.eV zE (.slice none 0 0), .int .i64 ((n1 : Int) - 1), .int .i64 8]) (by simp [results, Tryz.results194, go_sem, zE, r0', r1', r2', r3', r4']) rfl ⟨by rw [show ((n1 - 1 : Nat) : Int) = (n1 : Int) - 1 by omega], HBg.out⟩
      · have hs := sg_kind hk
        have q4 : ((tkAt l n).1 == 4) = false := beq_eq_false_iff_ne.2 hk
        obtain rfl : r = .ok e n := HI.out.lop.trans (lopR_end l e n d m (rank0 hm hs))
        obtain ⟨z0, z1, z2, z3, z4, r0, r1, r2, r3, r4, y0, y1, y2, y3, y4⟩ := HI.out.res.facts
        have hres := HI.out.res.lt
        obtain ⟨e0, e1, e2, e3, e4⟩ := row5_facts HI.out.row
        have hqr := row5_lt HI.out.row
        have HF := Lib.hid HI.out.fin
        have HO := Lib.hid HI.out.ok
        go_wp2_with fail
        exact bodyPost_ret (v := .tuple #[S3.eV e (.slice A k c), .int .i64 (n : Int), .int .i64 0]) (by simp [results, Tryz.results194, go_sem, r0, r1, r2, r3, r4]) rfl ⟨A, k, c, rfl, HO.out, HF.out.1, HF.out.2⟩
    · have hs : sgAt l n = [] := by unfold sgAt; rw [tk_out hge]; rfl
      have hge' : ¬ (n : Int) < (l.length : Int) := by omega
      obtain rfl : r = .ok e n := HI.out.lop.trans (lopR_end l e n d m (rank0 hm hs))
      obtain ⟨z0, z1, z2, z3, z4, r0, r1, r2, r3, r4, y0, y1, y2, y3, y4⟩ := HI.out.res.facts
      have hres := HI.out.res.lt
      obtain ⟨e0, e1, e2, e3, e4⟩ := row5_facts HI.out.row
      have hqr := row5_lt HI.out.row
      have HF := Lib.hid HI.out.fin
      have HO := Lib.hid HI.out.ok
      go_wp2_with fail
      exact bodyPost_ret (v := .tuple #[S3.eV e (.slice A k c), .int .i64 (n : Int), .int .i64 0]) (by simp [results, Tryz.results194, go_sem, r0, r1, r2, r3, r4]) rfl ⟨A, k, c, rfl, HO.out, HF.out.1, HF.out.2⟩
end Go.Proofs.YtoldhocdfkndbaaGreatDoor.E5

namespace Go.Proofs.YtoldhocdfkndbaaGreatDoor.E5
open Go Go.RowKit Go.Proofs.YtoldhocdfkndbaaGreatDoor

theorem rix_calls {l : TL} {v : Value} (hll : l.length ≤ 1000000) {i d : Nat} (hil : i < l.length) (hd : d ≤ 9223372036854775807) (hC : i + 1 < l.length → d < 40 → BIR l v (i + 2) (d + 1) 1) (hs : sgAt l (i + 1) = [91]) :
    ∀ W, TokL W W.heap.size v l → Calls Tryz.prog 227 #[v, .int .i64 (i : Int), .int .i64 (d : Int)] W (PostP W (if 40 ≤ d then .bad (i + 1) 8 else (binR l (i + 2) (d + 1) 1).bind fun e n => if sgAt l n = [93] then madeR ⟨6, 0, 0, (tkAt l i).2, [e]⟩ (n + 1) else .bad n 7)) := by
  intro W hW
  have hi1 := sgAt_lt hs (by simp)
  by_cases h40 : 40 ≤ d
  · rw [if_pos h40]; exact rix_deep hW hll i (by omega) d hd h40
  rw [if_neg h40]
  have hcd := cd_bin l (i + 2) (d + 1) 1
  have hwin := binR_within l (i + 2) (d + 1) 1 (by omega) (by omega)
  cases hr : binR l (i + 2) (d + 1) 1 with
  | bad j c =>
    rw [hr] at hcd
    exact rix_bad hW hll i (by omega) d hd (by omega) (hC hi1 (by omega)) j c hcd hr
  | ok e n =>
    rw [hr] at hwin
    simp only [Res.within] at hwin
    simp only [Res.bind]
    by_cases hn : sgAt l n = [93]
    · rw [if_pos hn]
      unfold madeR
      cases hx : S3.exB ⟨6, 0, 0, (tkAt l i).2, [e]⟩ with
      | true => exact rix_yes hW hll i (by omega) d hd (by omega) (hC hi1 (by omega)) e n hr hil hwin.2 hn hx
      | false => exact rix_made hW hll i (by omega) d hd (by omega) (hC hi1 (by omega)) e n hr hil hwin.2 hn hx
    · rw [if_neg hn]; exact rix_no hW hll i (by omega) d hd (by omega) (hC hi1 (by omega)) e n hr hn
theorem rns_calls {l : TL} {v : Value} (hll : l.length ≤ 1000000) {i d : Nat} (hil : i < l.length) (hd : d ≤ 9223372036854775807) (hB : d < 40 → BIR l v (i + 1) (d + 1) 1) (hO : d < 40 → OPR l v (i + 1) (d + 1)) :
    ∀ W, TokL W W.heap.size v l → Calls Tryz.prog 228 #[v, .int .i64 (i : Int), .int .i64 (d : Int)] W (PostP W (
      if sgAt l i = [45] then if 40 ≤ d then .bad i 8 else (opdR l (i + 1) (d + 1)).bind fun e n => madeR ⟨4, 14, 0, [], [e]⟩ n
      else if sgAt l i = [33] then if 40 ≤ d then .bad i 8 else (opdR l (i + 1) (d + 1)).bind fun e n => madeR ⟨4, 15, 0, [], [e]⟩ n
      else if sgAt l i = [40] then if 40 ≤ d then .bad i 8 else (binR l (i + 1) (d + 1) 1).bind fun e n => if sgAt l n = [41] then .ok e (n + 1) else .bad n 7
      else .bad i 7)) := by
  intro W hW
  have hcd := cd_opd l (i + 1) (d + 1)
  have hcb := cd_bin l (i + 1) (d + 1) 1
  have hwo := opdR_within l (i + 1) (d + 1) hil
  have hwb := binR_within l (i + 1) (d + 1) 1 (by omega) hil
  by_cases h1 : sgAt l i = [45]
  · rw [if_pos h1]
    by_cases h40 : 40 ≤ d
    · rw [if_pos h40]; exact rns_deep_min hW hll i (by omega) d hd h1 h40
    rw [if_neg h40]
    cases hr : opdR l (i + 1) (d + 1) with
    | bad j c => rw [hr] at hcd; exact rns_bad_min hW hll i (by omega) d hd h1 (by omega) (hO (by omega)) j c hcd hr
    | ok e n =>
      rw [hr] at hwo
      simp only [Res.within] at hwo
      simp only [Res.bind]
      unfold madeR
      cases hx : S3.exB ⟨4, 14, 0, [], [e]⟩ with
      | true => exact rns_yes_min hW hll i (by omega) d hd h1 (by omega) (hO (by omega)) e n (by omega) hwo.2 hr hx
      | false => exact rns_made_min hW hll i (by omega) d hd h1 (by omega) (hO (by omega)) e n (by omega) hwo.2 hr hx
  rw [if_neg h1]
  by_cases h2 : sgAt l i = [33]
  · rw [if_pos h2]
    by_cases h40 : 40 ≤ d
    · rw [if_pos h40]; exact rns_deep_not hW hll i (by omega) d hd h2 h40
    rw [if_neg h40]
    cases hr : opdR l (i + 1) (d + 1) with
    | bad j c => rw [hr] at hcd; exact rns_bad_not hW hll i (by omega) d hd h2 (by omega) (hO (by omega)) j c hcd hr
    | ok e n =>
      rw [hr] at hwo
      simp only [Res.within] at hwo
      simp only [Res.bind]
      unfold madeR
      cases hx : S3.exB ⟨4, 15, 0, [], [e]⟩ with
      | true => exact rns_yes_not hW hll i (by omega) d hd h2 (by omega) (hO (by omega)) e n (by omega) hwo.2 hr hx
      | false => exact rns_made_not hW hll i (by omega) d hd h2 (by omega) (hO (by omega)) e n (by omega) hwo.2 hr hx
  rw [if_neg h2]
  by_cases h3 : sgAt l i = [40]
  · rw [if_pos h3]
    by_cases h40 : 40 ≤ d
    · rw [if_pos h40]; exact rns_deep_par hW hll i (by omega) d hd h3 h40
    rw [if_neg h40]
    cases hr : binR l (i + 1) (d + 1) 1 with
    | bad j c => rw [hr] at hcb; exact rns_bad_par hW hll i (by omega) d hd h3 (by omega) (hB (by omega)) j c hcb hr
    | ok e n =>
      rw [hr] at hwb
      simp only [Res.within] at hwb
      simp only [Res.bind]
      by_cases hn : sgAt l n = [41]
      · rw [if_pos hn]; exact rns_yes_par hW hll i (by omega) d hd h3 (by omega) (hB (by omega)) e n hwb.2 hr hn
      · rw [if_neg hn]; exact rns_no_par hW hll i (by omega) d hd h3 (by omega) (hB (by omega)) e n hwb.2 hr hn
  rw [if_neg h3]
  exact rns_none hW hll i (by omega) d hd h1 h2 h3
theorem sg_notk {l : TL} {i : Nat} (h : (tkAt l i).1 ≠ 4) {s : Bytes} (hs : s ≠ []) : sgAt l i ≠ s := by rw [sg_kind h]; exact fun e => hs e.symm
theorem rop_calls {l : TL} {v : Value} (hll : l.length ≤ 1000000) {i d : Nat} (hi : i ≤ l.length) (hd : d ≤ 9223372036854775807) (hB : i < l.length → d < 40 → BIR l v (i + 1) (d + 1) 1) (hO : i < l.length → d < 40 → OPR l v (i + 1) (d + 1)) (hB2 : i + 1 < l.length → d < 40 → BIR l v (i + 2) (d + 1) 1) :
    OPR l v i d := by
  intro W hW
  rcases Nat.lt_or_ge i l.length with hil | hge
  · rw [opdR_eq l i d hi]
    by_cases h2 : (tkAt l i).1 = 2
    · rw [if_pos h2]
      unfold numR numT
      cases hP : N2.numParse (tkAt l i).2 with
      | none => exact rop_numbad hW hll i hil d h2 0 7 (by rw [hP]; exact ⟨rfl, rfl⟩) (.inl (by decide))
      | some n =>
        simp only
        by_cases hn : 0 ≤ n
        · rw [if_pos hn]; exact rop_num hW hll i hil d h2 n hn hP
        · rw [if_neg hn]; exact rop_numbad hW hll i hil d h2 n 0 (by rw [hP]; exact ⟨rfl, rfl⟩) (.inr ⟨rfl, by omega⟩)
    rw [if_neg h2]
    by_cases h1 : (tkAt l i).1 = 1
    · rw [if_pos h1]
      have k := fun s => kw_no (l := l) (i := i) (s := s) (.inl (by omega))
      by_cases hn : S3.nameB (tkAt l i).2 = true
      · have hnm : nmTok (tkAt l i) = true := by simp [nmTok, h1, hn]
        rw [if_pos hn]
        by_cases hs : sgAt l (i + 1) = [91]
        · rw [if_pos hs]
          exact rop_idx hW hll i hil d (k _) (k _) (k _) h2 hnm hs _ (rix_calls hll hil hd hB2 hs)
        · rw [if_neg hs]; exact rop_var hW hll i hil d (k _) (k _) (k _) h2 hnm hs
      · rw [if_neg hn]
        have h4 : (tkAt l i).1 ≠ 4 := by omega
        have := rop_nest hW hll i hil d (k _) (k _) (k _) h2 (by simp [nmTok, hn]) _ (rns_calls hll hil hd (hB hil) (hO hil))
        rwa [if_neg (sg_notk h4 (by simp)), if_neg (sg_notk h4 (by simp)), if_neg (sg_notk h4 (by simp))] at this
    rw [if_neg h1]
    have hnm : nmTok (tkAt l i) = false := by simp [nmTok, h1]
    by_cases h3 : (tkAt l i).1 = 3
    · rw [if_pos h3]
      unfold keyR
      by_cases ht : (tkAt l i).2 = [116, 114, 117, 101]
      · rw [if_pos ht]; exact rop_true hW hll i hil d (kw_yes h3 ht) h2
      rw [if_neg ht]
      by_cases hf : (tkAt l i).2 = [102, 97, 108, 115, 101]
      · rw [if_pos hf]; exact rop_false hW hll i hil d (kw_no (.inr ht)) (kw_yes h3 hf) h2
      rw [if_neg hf]
      by_cases hn : (tkAt l i).2 = [108, 101, 110]
      · rw [if_pos hn]; exact rop_len hW hll i hil d (kw_no (.inr ht)) (kw_no (.inr hf)) (kw_yes h3 hn) h2 _ fun W hW => rlen_calls hW hll i hi
      rw [if_neg hn]
      have h4 : (tkAt l i).1 ≠ 4 := by omega
      have := rop_nest hW hll i hil d (kw_no (.inr ht)) (kw_no (.inr hf)) (kw_no (.inr hn)) h2 hnm _ (rns_calls hll hil hd (hB hil) (hO hil))
      rwa [if_neg (sg_notk h4 (by simp)), if_neg (sg_notk h4 (by simp)), if_neg (sg_notk h4 (by simp))] at this
    rw [if_neg h3]
    have k := fun s => kw_no (l := l) (i := i) (s := s) (.inl h3)
    exact rop_nest hW hll i hil d (k _) (k _) (k _) h2 hnm _ (rns_calls hll hil hd (hB hil) (hO hil))
  · have hil : i = l.length := by omega
    subst hil
    have e : opdR l l.length d = .bad l.length 7 := by
      have h0 : tkAt l l.length = (0, []) := tk_out (Nat.le_refl _)
      have hs : sgAt l l.length = [] := by unfold sgAt; rw [h0]; rfl
      rw [opdR_eq l _ d (Nat.le_refl _), h0, hs, if_neg (by decide), if_neg (by decide), if_neg (by decide), if_neg (by decide), if_neg (by decide), if_neg (by decide)]
    rw [e]
    exact rop_out hW l.length (Nat.le_refl _) d
theorem rparts (l : TL) (v : Value) (hll : l.length ≤ 1000000) (n : Nat) : (∀ i d, i ≤ l.length → l.length - i ≤ n → d ≤ 9223372036854775807 → OPR l v i d) ∧ (∀ i d m, i ≤ l.length → l.length - i ≤ n → d ≤ 9223372036854775807 → 1 ≤ m → m ≤ 6 → BIR l v i d m) := by
  induction n using Nat.strongRecOn with
  | _ n ih =>
    have hO : ∀ i d, i ≤ l.length → l.length - i ≤ n → d ≤ 9223372036854775807 → OPR l v i d := by
      intro i d hi hn hd
      exact rop_calls hll hi hd (fun hl h40 => (ih (l.length - (i + 1)) (by omega)).2 (i + 1) (d + 1) 1 (by omega) (by omega) (by omega) (by omega) (by omega)) (fun hl h40 => (ih (l.length - (i + 1)) (by omega)).1 (i + 1) (d + 1) (by omega) (by omega) (by omega))
        (fun hl h40 => (ih (l.length - (i + 2)) (by omega)).2 (i + 2) (d + 1) 1 (by omega) (by omega) (by omega) (by omega) (by omega))
    refine ⟨hO, fun i d m hi hn hd hm hm6 W hW => ?_⟩
    have CO := hO i d hi hn hd
    unfold OPR at CO
    have hcd := cd_opd l i d
    cases hr : opdR l i d with
    | bad j c =>
      rw [hr] at CO hcd
      rw [binR_eq l i d m hm hi, hr]
      exact rbin_bad hW i d m j c hcd CO
    | ok e n0 =>
      rw [hr] at CO
      have hwin := opdR_within l i d hi
      rw [hr] at hwin
      simp only [Res.within] at hwin
      rw [binR_eq l i d m hm hi, hr]
      exact rbin_ok hW hll i d hd m hm hm6 e n0 hwin.1 hwin.2 _ rfl CO fun j m' hj hjl hm1 hm2 => (ih (l.length - j) (by omega)).2 j d m' hjl (Nat.le_refl _) hd hm1 hm2
set_option maxRecDepth 100000 in
set_option maxHeartbeats 2000000 in
theorem rparse_calls {w : World} {l : TL} {v : Value} (hT : TokL w w.heap.size v l) (hll : l.length ≤ 1000000) (i d : Nat) (hi : i ≤ l.length) (hd : d ≤ 9223372036854775807) :
    Calls Tryz.prog 165 #[v, .int .i64 (i : Int), .int .i64 (d : Int)] w (PostP w (parseR l i d)) := by
  obtain ⟨TA, Tc, rfl⟩ := hT.val
  rw [parseR_is]
  have C := Lib.hid (fun o => (rparts l (.slice TA l.length Tc) hll (l.length - i)).2 i d 1 hi (Nat.le_refl _) hd (by omega) (by omega) (w.alloc o) (tokU hT (S3.bal w o)))
  have Q := Lib.hid (fun a0 a1 a2 a3 a4 => R5.new w a0 a1 a2 a3 a4)
  have g1 : ¬ (i : Int) < 0 := by omega
  have g2 : ¬ (l.length : Int) < (i : Int) := by omega
  have g3 : ¬ (d : Int) < 0 := by omega
  clear hT
  generalize binR l i d 1 = r at *
  go_enter Tryz.func165, Tryz.ntmps165
  go_wp2_with fail
  refine (C.out _).mono ?_
  intro E w1 hP
  cases r with
  | bad j c =>
    obtain ⟨rfl, hb⟩ := hP
    obtain ⟨z0, z1, z2, z3, z4, r0, r1, r2, r3, r4, y0, y1, y2, y3, y4⟩ := ((Q.out _ _ _ _ _).bel hb).facts
    have hq1 := ((Q.out _ _ _ _ _).bel hb).lt
    have HB := Lib.hid (parse_fin zE none 0 0 hb (er_nil _ _)).2
    clear hb
    go_wp2_with fail
    exact bodyPost_ret (v := .tuple #[S3.eV zE (.slice none 0 0), .int .i64 (j : Int), .int .i64 c]) (by simp [results, Tryz.results165, go_sem, zE, r0, r1, r2, r3, r4]) rfl ⟨rfl, HB.out⟩
  | ok e n =>
    obtain ⟨A, k, c, rfl, ho, hE, hb⟩ := hP
    obtain ⟨z0, z1, z2, z3, z4, r0, r1, r2, r3, r4, y0, y1, y2, y3, y4⟩ := ((Q.out _ _ _ _ _).bel hb).facts
    have hq1 := ((Q.out _ _ _ _ _).bel hb).lt
    rw [S3.sz1] at hE
    have HB := Lib.hid (parse_fin e A k c hb hE)
    have HO := Lib.hid ho
    clear hb hE ho
    go_wp2_with fail
    exact bodyPost_ret (v := .tuple #[S3.eV e (.slice A k c), .int .i64 (n : Int), .int .i64 0]) (by simp [results, Tryz.results165, go_sem, r0, r1, r2, r3, r4]) rfl ⟨A, k, c, rfl, HO.out, HB.out.1, HB.out.2⟩
end Go.Proofs.YtoldhocdfkndbaaGreatDoor.E5

namespace Go.Proofs.YtoldhocdfkndbaaGreatDoor.E5
open Go Go.RowKit Go.Proofs.YtoldhocdfkndbaaGreatDoor

/-- An expression put behind a row of one's own. -/
theorem ex_app {base : Nat} {acc : List Ex} {x : Value} {wr W : World} {e : Ex} {A : Option Addr} {k c : Nat} (h : S3.GrI S3.kE base acc x wr) (hb : Below wr.heap.size wr W) (ho : S3.OkE e) (hE : S3.ER W (Rn wr.heap.size W.heap.size) e.args (.slice A k c)) (hl : acc.length ≤ 1000000) (ty : TypeId) :
    ∃ g cap w8, (Builtin.append_ #[30, 30] ty #[x, .slice (some ⟨W.heap.size, 0, none⟩) 1 1]).run Tryz.prog (W.alloc (S3.eO e (.slice A k c))) = .ok (.slice (some ⟨g, 0, none⟩) (acc.length + 1) cap) w8 ∧
      S3.GrI S3.kE base (acc ++ [e]) (.slice (some ⟨g, 0, none⟩) (acc.length + 1) cap) w8 ∧ Below base W w8 := by
  obtain ⟨i0, hi0, hz0, hz1, hz2⟩ := info_parts S3.infoE
  have hW := h.bel hb
  have hp := h.part (a := e) (x := .slice A k c) (w1 := W) ⟨ho, hE⟩
  obtain ⟨xs, hown, hst⟩ := hW.own
  have hbase : base ≤ W.heap.size := by obtain ⟨_, _, _, h3⟩ := hW; exact h3
  obtain ⟨v', w', hrun, h2, h3, _, h5⟩ := run_append_own_at (P := Tryz.prog) (W.alloc (S3.eO e (.slice A k c))) base 30 ty 32 i0 _ 5 64 Tryz.underlying30 hi0 hz0 hz1 hz2 rfl (by decide) x acc.length xs (hown.alloc _) ⟨W.heap.size, 0, none⟩ 1 1 (S3.eC e (.slice A k c)) rfl
    (fun j u hu => by rw [add_plain, Nat.zero_add]; exact S3.newCell W _ 32 j u (by rw [List.getElem?_toArray]; exact hu)) (by intro u hu; simp [S3.eC] at hu; rcases hu with rfl | rfl | rfl | rfl | rfl <;> rfl) (by unfold maxLen; omega) (by omega) (by rw [S3.sz1]; omega)
  obtain ⟨g, cap, rfl⟩ : ∃ g cap, v' = .slice (some ⟨g, 0, none⟩) (acc.length + 1) cap := by
    rcases h2.2 with ⟨_, h9⟩ | ⟨g, cap, cur, e1, _⟩
    · omega
    · exact ⟨g, cap, e1⟩
  have h6 : x.ownBlock = some g ∨ g = (W.alloc (S3.eO e (.slice A k c))).heap.size := by
    rcases h5 with h5 | h5
    · exact .inl h5.symm
    · simp only [Value.ownBlock, Option.some.injEq] at h5; exact .inr h5
  obtain ⟨h7, h8⟩ := hst e (.slice A k c) _ g cap w' hp h2 h3 h6
  exact ⟨g, cap, w', hrun, h7, h8⟩
/-- What has been read of a list. -/
structure RLI (w : World) (l : TL) (v : Value) (d : Nat) (r : ResL) (acc : List Ex) (n f : Nat) (x : Value) (wr : World) : Prop where
  tok : TokL wr w.heap.size v l
  gr : S3.GrI S3.kE w.heap.size acc x wr
  bel : Below w.heap.size w wr
  af : r = lstR l d f acc n
  fuel : l.length - n + 1 ≤ f
  le : n ≤ l.length
  cnt : acc.length ≤ n
theorem RLI.mv {w : World} {l : TL} {v : Value} {d : Nat} {r : ResL} {acc : List Ex} {n f : Nat} {x : Value} {wr wr' : World} (h : RLI w l v d r acc n f x wr) (hb : Below wr.heap.size wr wr') : RLI w l v d r acc n f x wr' :=
  ⟨h.tok.keep (Nat.le_refl _) (fun b i hx => hb.cell (p := ⟨b, i, none⟩) (Nat.lt_of_lt_of_le hx h.bel.size)), h.gr.bel hb, after h.bel hb, h.af, h.fuel, h.le, h.cnt⟩
theorem RLI.tk {w : World} {l : TL} {v : Value} {d : Nat} {r : ResL} {acc : List Ex} {n f : Nat} {x : Value} {wr : World} (h : RLI w l v d r acc n f x wr) : TokL wr wr.heap.size v l := h.tok.keep h.bel.size fun _ _ _ => rfl
set_option maxRecDepth 100000 in
set_option maxHeartbeats 4000000 in
theorem rlst_calls {w : World} {l : TL} {v : Value} (hT : TokL w w.heap.size v l) (hll : l.length ≤ 1000000) (i d : Nat) (hi : i ≤ l.length) (hd : d ≤ 9223372036854775807) :
    Calls Tryz.prog 195 #[v, .int .i64 (i : Int), .int .i64 (d : Int)] w (PostPL w (listR l i d)) := by
  obtain ⟨TA, Tc, rfl⟩ := hT.val
  have g1 : ¬ (i : Int) < 0 := by omega
  have g2 : ¬ (l.length : Int) < (i : Int) := by omega
  have g3 : ¬ (d : Int) < 0 := by omega
  have HT := Lib.hid hT
  unfold listR
  by_cases h1 : sgAt l i = [40]
  · have hil := sgAt_lt h1 (by simp)
    have q1 : (sgAt l i == [40]) = true := by rw [h1]; rfl
    rw [if_pos h1]
    by_cases h2 : sgAt l (i + 1) = [41]
    · rw [if_pos h2]
      have q2 : (sgAt l (i + 1) == [41]) = true := by rw [h2]; rfl
      clear hT
      go_enter Tryz.func195, Tryz.ntmps195
      try simp only [List.append_eq, List.cons_append, List.nil_append]
      go_wp2_with fail
      refine (rsg_is HT.out q1 (by simp) (by omega)).mono ?_
      rintro E w1 ⟨rfl, hb⟩
      have HB1 := Lib.hid hb
      have HT1 := Lib.hid (tokU HT.out hb)
      clear hb
      go_wp2_with fail
      refine (rsg_is HT1.out q2 (by simp) (by omega)).mono ?_
      rintro E w2 ⟨rfl, hb⟩
      have HB2 := Lib.hid (after HB1.out hb)
      clear hb
      go_wp2_with fail
      go_ret3
      exact ⟨none, 0, by rw [show ((i + 2 : Nat) : Int) = (i : Int) + 2 by omega]; rfl, er_nil _ _, HB2.out⟩
    · rw [if_neg h2]
      have q2 : (sgAt l (i + 1) == [41]) = false := beq_eq_false_iff_ne.2 h2
      have H0 := Lib.hid (show ∀ W, Below w.heap.size w W → RLI w l (.slice TA l.length Tc) d (lstR l d (l.length + 1) [] (i + 1)) [] (i + 1) (l.length + 1) (.slice none 0 0) W from fun W hb => ⟨hT.bel hb, S3.GrI.start S3.kE hb.size (fun _ => .bool false), hb, rfl, by omega, hil, Nat.zero_le _⟩)
      clear hT
      generalize lstR l d (l.length + 1) [] (i + 1) = r at *
      go_enter Tryz.func195, Tryz.ntmps195
      try simp only [List.append_eq, List.cons_append, List.nil_append]
      go_wp2_with fail
      refine (rsg_is HT.out q1 (by simp) (by omega)).mono ?_
      rintro E w1 ⟨rfl, hb⟩
      have HB1 := Lib.hid hb
      have HT1 := Lib.hid (tokU HT.out hb)
      clear hb
      go_wp2_with fail
      refine (rsg_is HT1.out q2 (by simp) (by omega)).mono ?_
      rintro E w2 ⟨rfl, hb⟩
      have H2 := Lib.hid (H0.out w2 (after HB1.out hb))
      clear hb H0 HT1 HB1
      go_wp2_with fail
      go_loopw [9, 10] (fun x nx wr => ∃ (acc : List Ex) (n f : Nat), nx = .int .i64 (n : Int) ∧ Hid (RLI w l (.slice TA l.length Tc) d r acc n f x wr) ∧ ∃ Ax cx, Hid (x = .slice Ax acc.length cx)) (fun _ nx _ => l.length + 1 - (intOf nx).toNat)
      case atStart => exact ⟨[], i + 1, l.length + 1, by go_num, H2, none, 0, Lib.hid rfl⟩
      case round =>
        clear H2
        obtain ⟨acc, n, f, rfl, HI, Ax, cx, HX⟩ := hrel
        have hnl := HI.out.le
        have hfu := HI.out.fuel
        have hcn := HI.out.cnt
        obtain ⟨f, rfl⟩ : ∃ f', f = f' + 1 := ⟨f - 1, by omega⟩
        have haf := HI.out.af
        rw [lstR_eq] at haf
        have hcd := cd_bin l n d 1
        have hwin := binR_within l n d 1 (by omega) hnl
        have hPc := rparse_calls HI.out.tk hll n d hnl hd
        rw [parseR_is] at hPc
        cases hr : binR l n d 1 with
        | bad j c =>
          rw [hr] at haf hcd hPc
          obtain rfl : r = .bad j c := haf
          have hq' : (c == 0) = false := beq_eq_false_iff_ne.2 hcd
          have HP := Lib.hid hPc
          clear hPc hr hwin
          go_wp2_with fail
          refine HP.out.mono ?_
          rintro E wa ⟨rfl, hb⟩
          have HBa := Lib.hid ((after HI.out.bel hb).alloc (Nat.le_trans HI.out.bel.size hb.size) (S3.eO zE (.slice none 0 0)))
          clear hb
          go_wp2_with fail
          go_ret3
          exact ⟨rfl, HBa.out⟩
        | ok e n' =>
          rw [hr] at haf hwin hPc
          simp only [Res.within] at hwin
          have HAF := Lib.hid haf
          have HP := Lib.hid hPc
          clear hPc hr hcd haf
          go_wp2_with fail
          refine HP.out.mono ?_
          rintro E wa ⟨A, k, c, rfl, ho, hE, hb⟩
          have b1 := S3.bal wa (S3.eO e (.slice A k c))
          have hbw := after hb b1
          have hEw := er_bel hE b1
          obtain ⟨g, cap, w8, r8, hG, hB8⟩ := ex_app HI.out.gr hbw ho hEw (by omega) 30
          have R8 := Lib.hid r8
          have HG := Lib.hid hG
          have HB8 := Lib.hid (((after HI.out.bel hbw)).trans hB8)
          have HT8 := Lib.hid ((HI.out.mv hbw).tok.bel hB8)
          have hsz8 := HB8.out.size
          rw [S3.sz1] at r8
          have R8 := Lib.hid r8
          clear hb b1 hbw hEw r8 hG hB8 ho hE HI
          go_wp2_with (at_builtin; refine Lib.wpList_append_run _ rfl _ _ _ _ rfl _ _ rfl rfl _ _ R8.out ?_)
          have HT9 := Lib.hid (HT8.out.keep (M' := w8.heap.size) hsz8 fun _ _ _ => rfl)
          have haf := HAF.out
          unfold aft at haf
          have hlen : (acc ++ [e]).length = acc.length + 1 := by simp
          clear HX HAF R8
          by_cases h44 : sgAt l n' = [44]
          · rw [if_pos h44] at haf
            have qa : (sgAt l n' == [41]) = false := by rw [h44]; rfl
            have qb : (sgAt l n' == [44]) = true := by rw [h44]; rfl
            have hl' := sgAt_lt h44 (by simp)
            have HN := Lib.hid (show RLI w l (.slice TA l.length Tc) d r (acc ++ [e]) (n' + 1) f (.slice (some ⟨g, 0, none⟩) (acc.length + 1) cap) w8 from ⟨HT8.out, HG.out, HB8.out, haf, by omega, hl', by rw [hlen]; omega⟩)
            clear haf hlen HG h44
            refine (rsg_is HT9.out qa (by simp) (by omega)).mono ?_
            rintro E wb ⟨rfl, hb⟩
            have HNb := Lib.hid (HN.out.mv hb)
            have HTb := Lib.hid (tokU HT9.out hb)
            clear hb HN
            go_wp2_with fail
            refine (rsg_is HTb.out qb (by simp) (by omega)).mono ?_
            rintro E wc ⟨rfl, hb⟩
            have HNc := Lib.hid (HNb.out.mv hb)
            clear hb HNb
            go_wp2_with fail
            go_roundw
            case rel => exact ⟨acc ++ [e], n' + 1, f, by go_num, HNc, _, _, Lib.hid (by rw [List.length_append]; rfl)⟩
            case measure => simp [intOf]; omega
          · rw [if_neg h44] at haf
            have qb : (sgAt l n' == [44]) = false := beq_eq_false_iff_ne.2 h44
            by_cases h41 : sgAt l n' = [41]
            · rw [if_pos h41] at haf
              subst haf
              have qa : (sgAt l n' == [41]) = true := by rw [h41]; rfl
              clear h44 h41
              refine (rsg_is HT9.out qa (by simp) (by omega)).mono ?_
              rintro E wb ⟨rfl, hb⟩
              have HGb := Lib.hid (er_gr (HG.out.bel hb) (by rw [hlen]; omega))
              have HBb := Lib.hid (after HB8.out hb)
              clear hb HG
              have HL := Lib.hid hlen
              clear hlen
              go_wp2_with fail
              go_ret3
              exact ⟨some ⟨g, 0, none⟩, cap, by rw [HL.out, show ((n' + 1 : Nat) : Int) = (n' : Int) + 1 by omega]; rfl, by rw [HL.out]; exact HGb.out, HBb.out⟩
            · rw [if_neg h41] at haf
              subst haf
              have qa : (sgAt l n' == [41]) = false := beq_eq_false_iff_ne.2 h41
              clear h44 h41 hlen HG
              refine (rsg_is HT9.out qa (by simp) (by omega)).mono ?_
              rintro E wb ⟨rfl, hb⟩
              have HBb := Lib.hid (after HB8.out hb)
              have HTb := Lib.hid (tokU HT9.out hb)
              clear hb
              go_wp2_with fail
              refine (rsg_is HTb.out qb (by simp) (by omega)).mono ?_
              rintro E wc ⟨rfl, hb⟩
              have HBc := Lib.hid (after HBb.out hb)
              clear hb
              go_wp2_with fail
              go_ret3
              exact ⟨rfl, HBc.out⟩
  · rw [if_neg h1]
    have q1 : (sgAt l i == [40]) = false := beq_eq_false_iff_ne.2 h1
    clear hT
    go_enter Tryz.func195, Tryz.ntmps195
    try simp only [List.append_eq, List.cons_append, List.nil_append]
    go_wp2_with fail
    refine (rsg_is HT.out q1 (by simp) (by omega)).mono ?_
    rintro E w1 ⟨rfl, hb⟩
    have HB1 := Lib.hid hb
    clear hb
    go_wp2_with fail
    go_ret3
    exact ⟨rfl, HB1.out⟩
end Go.Proofs.YtoldhocdfkndbaaGreatDoor.E5

namespace Go.Proofs.YtoldhocdfkndbaaGreatDoor.E5
open Go Go.RowKit Go.Proofs.YtoldhocdfkndbaaGreatDoor

/-! ### refs -/
def kR : S3.RowKind (Int × List UInt8) Int := ⟨129, 3, fun t a => [.int .i64 t.1, .string (B t.2), .int .i64 a], fun _ _ t _ => t.2.length ≤ 9223372036854775807, fun _ _ => rfl, fun h _ _ => h⟩
theorem infoTR : (Tryz.prog.info? 129).map (fun i => (i.zero, i.size, i.bytes)) = some (some (.agg #[.int .i64 0, .string ⟨#[]⟩, .int .i64 0]), 3, 32) := by kernel_rfl
theorem tokL_grR {base : Nat} {v : Value} {wr : World} {l : TL} (h : S3.GrI kR base l v wr) (hl : l.length ≤ 1000000) : TokL wr wr.heap.size v l := by
  rcases h.done with ⟨rfl, A, c, rfl⟩ | ⟨g, cap, V, rfl, hg, hr, hp⟩
  · exact ⟨A, c, rfl, by decide, fun i t hi => by simp at hi⟩
  · refine ⟨some ⟨g, 0, none⟩, cap, rfl, by omega, fun i t hi => ⟨hp i t hi, g, 0, V i, rfl, hr.lt, ?_⟩⟩
    have hrow : (kR.rows l V)[i]? = some [.int .i64 t.1, .string (B t.2), .int .i64 (V i)] := by simp [S3.RowKind.rows, List.getElem?_mapIdx, hi, kR]
    have c := fun j u hj => hr.cell (j := j) (u := u) hrow hj
    rw [Nat.zero_add]
    exact ⟨c 0 _ rfl, c 1 _ rfl, c 2 _ rfl⟩
/-- A token put behind a row of one's own. -/
theorem tk_app {base : Nat} {acc : TL} {x : Value} {W : World} {t : Int × List UInt8} {a : Int} (h : S3.GrI kR base acc x W) (ht : t.2.length ≤ 9223372036854775807) (hl : acc.length ≤ 1000000) (ty : TypeId) :
    ∃ g cap w8, (Builtin.append_ #[68, 68] ty #[x, .slice (some ⟨W.heap.size, 0, none⟩) 1 1]).run Tryz.prog (W.alloc (tO t a)) = .ok (.slice (some ⟨g, 0, none⟩) (acc.length + 1) cap) w8 ∧
      S3.GrI kR base (acc ++ [t]) (.slice (some ⟨g, 0, none⟩) (acc.length + 1) cap) w8 ∧ Below base W w8 := by
  obtain ⟨i0, hi0, hz0, hz1, hz2⟩ := L4.info_partsT infoTR
  obtain ⟨xs, hown, hst⟩ := h.own
  have hbase : base ≤ W.heap.size := by obtain ⟨_, _, _, h3⟩ := h; exact h3
  obtain ⟨v', w', hrun, h2, h3, _, h5⟩ := run_append_own_at (P := Tryz.prog) (W.alloc (tO t a)) base 68 ty 129 i0 _ 3 32 Tryz.underlying68 hi0 hz0 hz1 hz2 rfl (by decide) x acc.length xs (hown.alloc _) ⟨W.heap.size, 0, none⟩ 1 1 (kR.row t a) rfl
    (fun j u hu => by rw [add_plain, Nat.zero_add]; exact S3.newCell W _ 129 j u (by rw [List.getElem?_toArray]; exact hu)) (by intro u hu; simp [kR] at hu; rcases hu with rfl | rfl | rfl <;> rfl) (by unfold maxLen; omega) (by omega) (by rw [S3.sz1]; omega)
  obtain ⟨g, cap, rfl⟩ : ∃ g cap, v' = .slice (some ⟨g, 0, none⟩) (acc.length + 1) cap := by
    rcases h2.2 with ⟨_, h9⟩ | ⟨g, cap, cur, e1, _⟩
    · omega
    · exact ⟨g, cap, e1⟩
  have h6 : x.ownBlock = some g ∨ g = (W.alloc (tO t a)).heap.size := by
    rcases h5 with h5 | h5
    · exact .inl h5.symm
    · simp only [Value.ownBlock, Option.some.injEq] at h5; exact .inr h5
  obtain ⟨h7, h8⟩ := hst t a _ g cap w' ht h2 h3 h6
  exact ⟨g, cap, w', hrun, h7, h8⟩
/-! ### a clone, and that it is equal -/
/-- Tokens with their places. -/
def AtL (W : World) (M : Nat) (v : Value) (l : TL) (V : Nat → Int) : Prop :=
  ∃ A c, v = .slice A l.length c ∧ ∀ (i : Nat) t, l[i]? = some t → ∃ b o, A = some ⟨b, o, none⟩ ∧ b < M ∧ W.cell? ⟨b, o + i * 3, none⟩ = some (.int .i64 t.1) ∧ W.cell? ⟨b, o + i * 3 + 1, none⟩ = some (.string (B t.2)) ∧ W.cell? ⟨b, o + i * 3 + 2, none⟩ = some (.int .i64 (V i))
theorem AtL.bel {W W' : World} {M : Nat} {v : Value} {l : TL} {V : Nat → Int} (h : AtL W M v l V) (hb : Below M W W') : AtL W' M v l V := by
  obtain ⟨A, c, h1, h2⟩ := h
  refine ⟨A, c, h1, fun i t hi => ?_⟩
  obtain ⟨b, o, e1, e2, e3, e4, e5⟩ := h2 i t hi
  exact ⟨b, o, e1, e2, (hb.cell (p := ⟨b, o + i * 3, none⟩) e2).trans e3, (hb.cell (p := ⟨b, o + i * 3 + 1, none⟩) e2).trans e4, (hb.cell (p := ⟨b, o + i * 3 + 2, none⟩) e2).trans e5⟩
theorem AtL.mono {W : World} {M M' : Nat} {v : Value} {l : TL} {V : Nat → Int} (h : AtL W M v l V) (hM : M ≤ M') : AtL W M' v l V := by
  obtain ⟨A, c, h1, h2⟩ := h
  refine ⟨A, c, h1, fun i t hi => ?_⟩
  obtain ⟨b, o, e1, e2, e3⟩ := h2 i t hi
  exact ⟨b, o, e1, Nat.lt_of_lt_of_le e2 hM, e3⟩
theorem AtL.tok {W : World} {M : Nat} {v : Value} {l : TL} {V : Nat → Int} (h : AtL W M v l V) (hl : l.length ≤ 9223372036854775807) (ht : ∀ (i : Nat) t, l[i]? = some t → t.2.length ≤ 9223372036854775807) : TokL W M v l := by
  obtain ⟨A, c, h1, h2⟩ := h
  refine ⟨A, c, h1, hl, fun i t hi => ?_⟩
  obtain ⟨b, o, e1, e2, e3, e4, e5⟩ := h2 i t hi
  exact ⟨ht i t hi, b, o, V i, e1, e2, e3, e4, e5⟩
end Go.Proofs.YtoldhocdfkndbaaGreatDoor.E5
