/-
  BYTES, ROWS, NUMBERS, SIGNS, AND THE TOKENS OF A TEXT, as plain functions. No program is named here.
-/
import Derived.Test.YtkpbplmmphpokaaGreatDoorNum
import Derived.Lib.ParseIntBTie
namespace Go.Proofs.YtkpbplmmphpokaaGreatDoor.L4
open Go

def lettI (c : Int) : Bool := decide (65 ≤ c) && decide (c ≤ 90) || decide (97 ≤ c) && decide (c ≤ 122)
def digI (c : Int) : Bool := decide (48 ≤ c) && decide (c ≤ 57)
def whiI (c : Int) : Bool := c == 32 || c == 9 || c == 13 || c == 10
def lett (c : UInt8) : Bool := lettI (c.toNat : Int)
def dig (c : UInt8) : Bool := digI (c.toNat : Int)
def whi (c : UInt8) : Bool := whiI (c.toNat : Int)
def okC (c : UInt8) : Bool := lett c || dig c || c == 95

/-- The letters, digits and _ with which a text begins. -/
def row (s : Bytes) : Bytes := s.takeWhile okC

theorem tw_take (p : UInt8 → Bool) (s : Bytes) : ∀ k, k ≤ s.length → (s.take k).all p = true → (k = s.length ∨ ∃ c, s[k]? = some c ∧ p c = false) → s.takeWhile p = s.take k := by
  induction s with
  | nil => intro k _ _ _; simp
  | cons c r ih =>
    intro k hk ha he
    cases k with
    | zero =>
      rcases he with he | ⟨d, hd, hp⟩
      · simp at he
      · simp at hd; subst hd; simp [hp]
    | succ k =>
      simp only [List.take_succ_cons, List.all_cons, Bool.and_eq_true] at ha
      rw [List.takeWhile_cons, if_pos ha.1, List.take_succ_cons, ih k (by simpa using hk) ha.2 (by simpa using he)]

/-- How many bytes of white space and comments a text begins with; true: within a comment. -/
def skN : Bool → Bytes → Nat
  | _, [] => 0
  | true, c :: r => if c = 10 then 1 + skN false r else 1 + skN true r
  | false, c :: r => if whi c then 1 + skN false r else if c = 47 ∧ r.head? = some 47 then 1 + skN true r else 0
theorem skN_le (b : Bool) (s : Bytes) : skN b s ≤ s.length := by
  induction s generalizing b with
  | nil => cases b <;> simp [skN]
  | cons c r ih =>
    have h1 := ih true
    have h2 := ih false
    cases b <;> simp only [skN, List.length_cons] <;> repeat (first | split | omega)

def kwsL : List Bytes := [[102, 117, 110, 99], [118, 97, 114], [105, 102], [101, 108, 115, 101], [119, 104, 105, 108, 101], [114, 101, 116, 117, 114, 110], [112, 114, 105, 110, 116], [114, 101, 97, 100], [110, 101, 119], [108, 101, 110], [105, 110, 116], [98, 111, 111, 108], [97, 114, 114, 97, 121], [116, 114, 117, 101], [102, 97, 108, 115, 101]]
def kwB (s : Bytes) : Bool := kwsL.contains s
def sgL : List Bytes := [[124, 124], [38, 38], [61, 61], [33, 61], [60, 61], [62, 61], [40], [41], [123], [125], [91], [93], [44], [59], [61], [60], [62], [43], [45], [42], [47], [37], [33]]
def sign (s : Bytes) : Bytes := (sgL.find? (fun x => x.isPrefixOf s)).getD []
def nameB (r : Bytes) : Bool := match r with | [] => false | c :: t => lett c && decide (t.length + 1 ≤ 16)
def numB (r : Bytes) : Bool := match Lib.parseIntB 64 r with | .ok v => Lib.itoa v == r | _ => false
/-- The token with which a text begins: its kind (0: none) and its text. -/
def tok (s : Bytes) : Int × Bytes :=
  if kwB (row s) then (3, row s) else if nameB (row s) then (1, row s) else if numB (row s) then (2, row s) else if sign s ≠ [] then (4, sign s) else (0, [])

structure Tk where
  k : Int
  t : Bytes
  a : Nat
deriving DecidableEq

def skAt (s : Bytes) (a : Nat) : Nat := a + skN false (s.drop a)
theorem skAt_le (s : Bytes) (a : Nat) (h : a ≤ s.length) : a ≤ skAt s a ∧ skAt s a ≤ s.length := by
  have := skN_le false (s.drop a)
  rw [List.length_drop] at this
  unfold skAt
  omega
def scN (s : Bytes) : Nat → Nat → List Tk × Option Nat
  | 0, _ => ([], none)
  | f + 1, a => if a < s.length then
      if (tok (s.drop a)).1 = 0 then ([], some a) else (⟨(tok (s.drop a)).1, (tok (s.drop a)).2, a⟩ :: (scN s f (skAt s (a + (tok (s.drop a)).2.length))).1, (scN s f (skAt s (a + (tok (s.drop a)).2.length))).2)
    else ([], none)
def scan (s : Bytes) : List Tk × Option Nat := scN s (s.length + 1) (skAt s 0)

/-! ### what a row is -/
theorem row_all (s : Bytes) : (row s).all okC = true := by
  unfold row
  induction s with
  | nil => rfl
  | cons c r ih =>
    rw [List.takeWhile_cons]
    split
    · rename_i h; simp only [List.all_cons, h, ih, Bool.true_and]
    · rfl
theorem row_pre (s : Bytes) : row s <+: s := List.takeWhile_prefix _
theorem row_len (s : Bytes) : (row s).length ≤ s.length := (row_pre s).length_le
theorem lett_dig {c : UInt8} (h : lett c = true) : dig c = false := by
  unfold lett dig lettI digI at *; simp at *; omega

/-! ### numbers -/
theorem parse10_dig (l : Bytes) : ∀ acc u, Lib.parseUint10 acc l = .ok u → u = numAt acc l ∧ ∀ c ∈ l, isDig c := by
  induction l with
  | nil => intro acc u h; unfold Lib.parseUint10 at h; cases h; exact ⟨rfl, by simp⟩
  | cons c l ih =>
    intro acc u h
    unfold Lib.parseUint10 at h
    split at h
    · rename_i hc
      split at h
      · cases h
      · split at h
        · cases h
        · obtain ⟨h1, h2⟩ := ih _ _ h
          refine ⟨by rw [numAt_cons, h1]; congr 1; omega, ?_⟩
          intro x hx
          rcases List.mem_cons.1 hx with rfl | hx
          · exact hc
          · exact h2 x hx
    · cases h
theorem dig_iff (c : UInt8) : dig c = true ↔ isDig c := by
  unfold dig digI isDig; simp only [Bool.and_eq_true, decide_eq_true_eq]; omega
theorem itoa_neg_head (v : Int) (h : v < 0) : ∃ t, Lib.itoa v = 45 :: t := ⟨_, by unfold Lib.itoa; rw [if_pos h]⟩
/-- What a row is that is a number: digits alone, none too many, no zero in front. -/
theorem numB_true {r : Bytes} (ho : r.all okC = true) (h : numB r = true) : (∀ c ∈ r, isDig c) ∧ numAt 0 r ≤ 9223372036854775807 ∧ r = Lib.decDigits (numAt 0 r) := by
  unfold numB at h
  split at h
  · rename_i v hv
    have hb := Lib.parseIntB_bounds hv
    rw [beq_iff_eq] at h
    have h0 : 0 ≤ v := by
      rcases Int.lt_or_le v 0 with hv0 | hv0
      · obtain ⟨t, ht⟩ := itoa_neg_head v hv0
        rw [ht] at h
        rw [← h] at ho
        simp [okC, lett, dig, lettI, digI] at ho
      · exact hv0
    obtain ⟨n, rfl⟩ := Int.eq_ofNat_of_zero_le h0
    rw [itoa_nn] at h
    subst h
    refine ⟨decDigits_dig n, ?_, ?_⟩
    · rw [numAt_dec]; simp at hb; omega
    · rw [numAt_dec]
  · cases h
theorem numB_dec (n : Nat) (h : n ≤ 9223372036854775807) : numB (Lib.decDigits n) = true := by
  unfold numB
  have h1 := atoi_itoa n h
  rw [itoa_nn] at h1
  rw [Lib.parseIntB_64, h1]
  simp only
  rw [itoa_nn, beq_self_eq_true]
theorem numB_nil : numB [] = false := rfl
theorem numB_no {r : Bytes} (ho : r.all okC = true) {c : UInt8} (hc : c ∈ r) (hd : dig c = false) : numB r = false := by
  rw [← Bool.not_eq_true]
  intro h
  have := (numB_true ho h).1 c hc
  rw [← dig_iff, hd] at this
  cases this
theorem dec_big {n : Nat} (h : 10 ≤ n) : Lib.decDigits n = Lib.decDigits (n / 10) ++ [UInt8.ofNat (48 + n % 10)] := by rw [Lib.decDigits, dif_neg (by omega)]
theorem dec_numAt (l : Bytes) (hd : ∀ c ∈ l, isDig c) (hne : l ≠ []) (h0 : l.head? ≠ some 48 ∨ l.length = 1) : l = Lib.decDigits (numAt 0 l) ∧ (l.head? ≠ some 48 → 1 ≤ numAt 0 l) := by
  induction h : l.length generalizing l with
  | zero => exact absurd (List.eq_nil_of_length_eq_zero h) hne
  | succ k ih =>
    obtain ⟨p, x, rfl⟩ : ∃ p x, l = p ++ [x] := ⟨l.dropLast, l.getLast hne, (List.dropLast_concat_getLast hne).symm⟩
    have hx : isDig x := hd x (by simp)
    unfold isDig at hx
    have hxe : UInt8.ofNat (48 + (x.toNat - 48)) = x := by rw [show 48 + (x.toNat - 48) = x.toNat by omega]; simp
    rcases Nat.eq_zero_or_pos k with rfl | hk
    · obtain rfl : p = [] := List.eq_nil_of_length_eq_zero (by simpa using h)
      rw [List.nil_append, numAt_one]
      constructor
      · rw [Lib.decDigits, dif_pos (by omega)]
        congr 1
        rw [show 48 + (10 * 0 + (x.toNat - 48)) = 48 + (x.toNat - 48) by omega, hxe]
      · intro h1
        simp at h1
        have : x.toNat ≠ 48 := fun e => h1 (UInt8.toNat_inj.1 e)
        omega
    · have hp : p ≠ [] := by rintro rfl; simp at h; omega
      have hh : (p ++ [x]).head? = p.head? := by
        cases p with
        | nil => exact absurd rfl hp
        | cons a b => rfl
      have hp0 : p.head? ≠ some 48 := by
        rcases h0 with h0 | h0
        · rwa [hh] at h0
        · simp at h0; exact absurd h0 (by intro e; exact hp e)
      obtain ⟨i1, i2⟩ := ih p (fun c hc => hd c (by simp [hc])) hp (.inl hp0) (by simpa using h)
      have i3 := i2 hp0
      rw [numAt_append, numAt_one]
      constructor
      · rw [dec_big (by omega), show (10 * numAt 0 p + (x.toNat - 48)) / 10 = numAt 0 p by omega, show (10 * numAt 0 p + (x.toNat - 48)) % 10 = x.toNat - 48 by omega, ← i1, hxe]
      · intro _; omega
theorem dec_head (u : Nat) : 1 ≤ u → ∃ c t, Lib.decDigits u = c :: t ∧ c ≠ 48 := by
  induction u using Nat.strongRecOn with
  | _ u ih =>
    intro hu
    rw [Lib.decDigits]
    by_cases h : u < 10
    · rw [dif_pos h]
      refine ⟨_, [], rfl, ?_⟩
      intro e
      have := congrArg UInt8.toNat e
      rw [digOf u h] at this
      simp at this
      omega
    · rw [dif_neg h]
      obtain ⟨c, t, h1, h2⟩ := ih (u / 10) (by omega) (by omega)
      exact ⟨c, _, by rw [h1]; rfl, h2⟩
/-- A row of digits is a number exactly if it has no zero in front, and is not too great. -/
theorem numB_digs {l : Bytes} (hd : ∀ c ∈ l, isDig c) (hne : l ≠ []) : numB l = (decide (l.head? ≠ some 48 ∨ l.length = 1) && decide (numAt 0 l ≤ 9223372036854775807)) := by
  rw [Bool.eq_iff_iff, Bool.and_eq_true, decide_eq_true_eq, decide_eq_true_eq]
  have ho : l.all okC = true := by
    rw [List.all_eq_true]
    intro c hc
    unfold okC
    rw [(dig_iff c).2 (hd c hc)]; simp
  constructor
  · intro h
    obtain ⟨_, h2, h3⟩ := numB_true ho h
    refine ⟨?_, h2⟩
    rcases Nat.eq_zero_or_pos (numAt 0 l) with h4 | h4
    · right; rw [h3, h4, Lib.decDigits, dif_pos (by omega)]; rfl
    · left
      obtain ⟨c, t, h5, h6⟩ := dec_head _ h4
      rw [h3, h5]
      simpa using h6
  · rintro ⟨h1, h2⟩
    rw [(dec_numAt l hd hne h1).1]
    exact numB_dec _ h2

/-! ### the order of strings of digits -/
theorem less_dig (x : Bytes) : ∀ (y : Bytes) (a b : Nat), x.length = y.length → (∀ c ∈ x, isDig c) → (∀ c ∈ y, isDig c) → a = b → (Op.bytesLess x y = decide (numAt a x < numAt b y)) := by
  induction x with
  | nil => intro y a b hl _ _ e; obtain rfl : y = [] := List.eq_nil_of_length_eq_zero hl.symm; subst e; simp [Op.bytesLess, numAt]
  | cons c x ih =>
    intro y a b hl hx hy e
    subst e
    cases y with
    | nil => simp at hl
    | cons d y =>
      have hc := hx c (by simp)
      have hd := hy d (by simp)
      unfold isDig at hc hd
      have hl' : x.length = y.length := by simpa using hl
      have bnd : ∀ (z : Bytes) (acc : Nat), (∀ c ∈ z, isDig c) → acc * 10 ^ z.length ≤ numAt acc z ∧ numAt acc z < (acc + 1) * 10 ^ z.length := by
        intro z
        induction z with
        | nil => intro acc _; simp [numAt]
        | cons e z ih =>
          intro acc hz
          have he := hz e (by simp)
          unfold isDig at he
          obtain ⟨i1, i2⟩ := ih (10 * acc + (e.toNat - 48)) (fun c hc => hz c (by simp [hc]))
          rw [numAt_cons, List.length_cons, Nat.pow_succ]
          constructor
          · refine Nat.le_trans ?_ i1
            rw [← Nat.mul_assoc, Nat.mul_right_comm]
            exact Nat.mul_le_mul_right _ (by omega)
          · refine Nat.lt_of_lt_of_le i2 ?_
            rw [← Nat.mul_assoc, Nat.mul_right_comm]
            exact Nat.mul_le_mul_right _ (by omega)
      rw [Op.bytesLess, numAt_cons, numAt_cons]
      by_cases h1 : c = d
      · subst h1
        rw [ih y (10 * a + (c.toNat - 48)) _ hl' (fun z hz => hx z (by simp [hz])) (fun z hz => hy z (by simp [hz])) rfl]
        simp
      · have hne : c.toNat ≠ d.toNat := fun e => h1 (UInt8.toNat_inj.1 e)
        have b1 := bnd x (10 * a + (c.toNat - 48)) (fun z hz => hx z (by simp [hz]))
        have b2 := bnd y (10 * a + (d.toNat - 48)) (fun z hz => hy z (by simp [hz]))
        rw [hl'] at b1
        by_cases h2 : c < d
        · have h3 : c.toNat < d.toNat := h2
          have h4 : numAt (10 * a + (c.toNat - 48)) x < numAt (10 * a + (d.toNat - 48)) y := Nat.lt_of_lt_of_le b1.2 (Nat.le_trans (Nat.mul_le_mul_right _ (by omega)) b2.1)
          simp [h2, h4]
        · have h3 : d.toNat < c.toNat := by
            have : ¬ c.toNat < d.toNat := h2
            omega
          have h4 : numAt (10 * a + (d.toNat - 48)) y < numAt (10 * a + (c.toNat - 48)) x := Nat.lt_of_lt_of_le b2.2 (Nat.le_trans (Nat.mul_le_mul_right _ (by omega)) b1.1)
          rw [decide_eq_false h2, beq_false_of_ne h1, decide_eq_false (by omega)]; rfl
theorem bound_dig (z : Bytes) : ∀ acc, (∀ c ∈ z, isDig c) → acc * 10 ^ z.length ≤ numAt acc z ∧ numAt acc z < (acc + 1) * 10 ^ z.length := by
  induction z with
  | nil => intro acc _; simp [numAt]
  | cons e z ih =>
    intro acc hz
    have he := hz e (by simp)
    unfold isDig at he
    obtain ⟨i1, i2⟩ := ih (10 * acc + (e.toNat - 48)) (fun c hc => hz c (by simp [hc]))
    rw [numAt_cons, List.length_cons, Nat.pow_succ]
    constructor
    · refine Nat.le_trans ?_ i1
      rw [← Nat.mul_assoc, Nat.mul_right_comm]
      exact Nat.mul_le_mul_right _ (by omega)
    · refine Nat.lt_of_lt_of_le i2 ?_
      rw [← Nat.mul_assoc, Nat.mul_right_comm]
      exact Nat.mul_le_mul_right _ (by omega)
def mostL : Bytes := [57, 50, 50, 51, 51, 55, 50, 48, 51, 54, 56, 53, 52, 55, 55, 53, 56, 48, 55]
/-- Digits without a zero in front that say more than the greatest number. -/
def great (s : Bytes) : Bool := decide (19 < s.length) || (decide (s.length = 19) && !(Op.bytesLess s mostL || s == mostL))
theorem great_is {s : Bytes} (hd : ∀ c ∈ s, isDig c) (hne : s ≠ []) (h0 : s.head? ≠ some 48 ∨ s.length = 1) : great s = decide (9223372036854775807 < numAt 0 s) := by
  unfold great
  rw [Bool.eq_iff_iff]
  simp only [Bool.or_eq_true, Bool.and_eq_true, decide_eq_true_eq, Bool.not_eq_true', Bool.or_eq_false_iff]
  have hm : numAt 0 mostL = 9223372036854775807 := by decide +kernel
  rcases Nat.lt_trichotomy s.length 19 with h | h | h
  · have := (bound_dig s 0 hd).2
    have h2 : 10 ^ s.length ≤ 10 ^ 18 := Nat.pow_le_pow_right (by omega) (by omega)
    omega
  · have := less_dig s mostL 0 0 h hd (by simp only [← dig_iff]; decide +kernel) rfl
    rw [this, hm]
    constructor
    · rintro (h1 | ⟨_, h1, h2⟩)
      · omega
      · simp at h1 h2
        rcases Nat.eq_or_lt_of_le h1 with h3 | h3
        · exfalso
          apply h2
          rw [(dec_numAt s hd hne h0).1, ← h3]
          decide +kernel
        · exact h3
    · intro h1
      refine .inr ⟨h, by simp; omega, ?_⟩
      simp
      intro e
      rw [e, hm] at h1
      omega
  · refine ⟨fun _ => ?_, fun _ => .inl h⟩
    cases s with
    | nil => simp at h
    | cons c r =>
      have hc := hd c (by simp)
      have hr := (bound_dig r (10 * 0 + (c.toNat - 48)) (fun x hx => hd x (by simp [hx]))).1
      rw [numAt_cons]
      have : c.toNat ≠ 48 := by
        rcases h0 with h0 | h0
        · intro e; apply h0; simp; exact UInt8.toNat_inj.1 e
        · simp at h0; subst h0; simp at h
      unfold isDig at hc
      have h3 : 10 ^ 19 ≤ 10 ^ r.length := Nat.pow_le_pow_right (by omega) (by simp at h; omega)
      have h4 : 1 * 10 ^ r.length ≤ (10 * 0 + (c.toNat - 48)) * 10 ^ r.length := Nat.mul_le_mul_right _ (by omega)
      have : (10 : Nat) ^ 19 = 10000000000000000000 := by decide
      omega
end Go.Proofs.YtkpbplmmphpokaaGreatDoor.L4
