/-
  BYTES, ROWS, NUMBERS, SIGNS, AND THE TOKENS OF A TEXT, as plain functions. No program is named here.
  WHICH TOKEN A TEXT BEGINS WITH, by its first byte; tokens with something behind them. No program is named here.
  Texts of tokens with gaps between them, and what a scan of them gives; what a scan's tokens are. No program is named here.
-/
import Derived.Test.YtoldhocdfkndbaaGreatDoorTxt
import Derived.Lib.ParseIntBTie
namespace Go.Proofs.YtoldhocdfkndbaaGreatDoor.L4
open Go

def lettI (c : Int) : Bool := decide (65 ≤ c) && decide (c ≤ 90) || decide (97 ≤ c) && decide (c ≤ 122)
def digI (c : Int) : Bool := decide (48 ≤ c) && decide (c ≤ 57)
def whiI (c : Int) : Bool := c == 32 || c == 9 || c == 13 || c == 10
def lett (c : UInt8) : Bool := lettI (c.toNat : Int)
def dig (c : UInt8) : Bool := digI (c.toNat : Int)
def whi (c : UInt8) : Bool := whiI (c.toNat : Int)
def okC (c : UInt8) : Bool := lett c || dig c || c == 95

/-- The letters, digits and _ with which a text begins. -/
def row (s : Bytes) : Bytes := s.takeWhile okC

theorem tw_take (p : UInt8 → Bool) (s : Bytes) : ∀ k, k ≤ s.length → (s.take k).all p = true → (k = s.length ∨ ∃ c, s[k]? = some c ∧ p c = false) → s.takeWhile p = s.take k := by
  induction s with
  | nil => intro k _ _ _; simp
  | cons c r ih =>
    intro k hk ha he
    cases k with
    | zero =>
      rcases he with he | ⟨d, hd, hp⟩
      · simp at he
      · simp at hd; subst hd; simp [hp]
    | succ k =>
      simp only [List.take_succ_cons, List.all_cons, Bool.and_eq_true] at ha
      rw [List.takeWhile_cons, if_pos ha.1, List.take_succ_cons, ih k (by simpa using hk) ha.2 (by simpa using he)]

/-- How many bytes of white space and comments a text begins with; true: within a comment. -/
def skN : Bool → Bytes → Nat
  | _, [] => 0
  | true, c :: r => if c = 10 then 1 + skN false r else 1 + skN true r
  | false, c :: r => if whi c then 1 + skN false r else if c = 47 ∧ r.head? = some 47 then 1 + skN true r else 0
theorem skN_le (b : Bool) (s : Bytes) : skN b s ≤ s.length := by
  induction s generalizing b with
  | nil => cases b <;> simp [skN]
  | cons c r ih =>
    have h1 := ih true
    have h2 := ih false
    cases b <;> simp only [skN, List.length_cons] <;> repeat (first | split | omega)

def kwsL : List Bytes := [[102, 117, 110, 99], [118, 97, 114], [105, 102], [101, 108, 115, 101], [119, 104, 105, 108, 101], [114, 101, 116, 117, 114, 110], [112, 114, 105, 110, 116], [114, 101, 97, 100], [110, 101, 119], [108, 101, 110], [105, 110, 116], [98, 111, 111, 108], [97, 114, 114, 97, 121], [116, 114, 117, 101], [102, 97, 108, 115, 101]]
def kwB (s : Bytes) : Bool := kwsL.contains s
def sgL : List Bytes := [[124, 124], [38, 38], [61, 61], [33, 61], [60, 61], [62, 61], [40], [41], [123], [125], [91], [93], [44], [59], [61], [60], [62], [43], [45], [42], [47], [37], [33]]
def sign (s : Bytes) : Bytes := (sgL.find? (fun x => x.isPrefixOf s)).getD []
def nameB (r : Bytes) : Bool := match r with | [] => false | c :: t => lett c && decide (t.length + 1 ≤ 16)
def numB (r : Bytes) : Bool := match Lib.parseIntB 64 r with | .ok v => Lib.itoa v == r | _ => false
/-- The token with which a text begins: its kind (0: none) and its text. -/
def tok (s : Bytes) : Int × Bytes :=
  if kwB (row s) then (3, row s) else if nameB (row s) then (1, row s) else if numB (row s) then (2, row s) else if sign s ≠ [] then (4, sign s) else (0, [])

structure Tk where
  k : Int
  t : Bytes
  a : Nat
deriving DecidableEq

def skAt (s : Bytes) (a : Nat) : Nat := a + skN false (s.drop a)
theorem skAt_le (s : Bytes) (a : Nat) (h : a ≤ s.length) : a ≤ skAt s a ∧ skAt s a ≤ s.length := by
  have := skN_le false (s.drop a)
  rw [List.length_drop] at this
  unfold skAt
  omega
def scN (s : Bytes) : Nat → Nat → List Tk × Option Nat
  | 0, _ => ([], none)
  | f + 1, a => if a < s.length then
      if (tok (s.drop a)).1 = 0 then ([], some a) else (⟨(tok (s.drop a)).1, (tok (s.drop a)).2, a⟩ :: (scN s f (skAt s (a + (tok (s.drop a)).2.length))).1, (scN s f (skAt s (a + (tok (s.drop a)).2.length))).2)
    else ([], none)
def scan (s : Bytes) : List Tk × Option Nat := scN s (s.length + 1) (skAt s 0)

/-! ### what a row is -/
theorem row_all (s : Bytes) : (row s).all okC = true := by
  unfold row
  induction s with
  | nil => rfl
  | cons c r ih =>
    rw [List.takeWhile_cons]
    split
    · rename_i h; simp only [List.all_cons, h, ih, Bool.true_and]
    · rfl
theorem row_pre (s : Bytes) : row s <+: s := List.takeWhile_prefix _
theorem row_len (s : Bytes) : (row s).length ≤ s.length := (row_pre s).length_le
theorem lett_dig {c : UInt8} (h : lett c = true) : dig c = false := by
  unfold lett dig lettI digI at *; simp at *; omega

/-! ### numbers -/
theorem parse10_dig (l : Bytes) : ∀ acc u, Lib.parseUint10 acc l = .ok u → u = numAt acc l ∧ ∀ c ∈ l, isDig c := by
  induction l with
  | nil => intro acc u h; unfold Lib.parseUint10 at h; cases h; exact ⟨rfl, by simp⟩
  | cons c l ih =>
    intro acc u h
    unfold Lib.parseUint10 at h
    split at h
    · rename_i hc
      split at h
      · cases h
      · split at h
        · cases h
        · obtain ⟨h1, h2⟩ := ih _ _ h
          refine ⟨by rw [numAt_cons, h1]; congr 1; omega, ?_⟩
          intro x hx
          rcases List.mem_cons.1 hx with rfl | hx
          · exact hc
          · exact h2 x hx
    · cases h
theorem dig_iff (c : UInt8) : dig c = true ↔ isDig c := by
  unfold dig digI isDig; simp only [Bool.and_eq_true, decide_eq_true_eq]; omega
theorem itoa_neg_head (v : Int) (h : v < 0) : ∃ t, Lib.itoa v = 45 :: t := ⟨_, by unfold Lib.itoa; rw [if_pos h]⟩
/-- What a row is that is a number: digits alone, none too many, no zero in front. -/
theorem numB_true {r : Bytes} (ho : r.all okC = true) (h : numB r = true) : (∀ c ∈ r, isDig c) ∧ numAt 0 r ≤ 9223372036854775807 ∧ r = Lib.decDigits (numAt 0 r) := by
  unfold numB at h
  split at h
  · rename_i v hv
    have hb := Lib.parseIntB_bounds hv
    rw [beq_iff_eq] at h
    have h0 : 0 ≤ v := by
      rcases Int.lt_or_le v 0 with hv0 | hv0
      · obtain ⟨t, ht⟩ := itoa_neg_head v hv0
        rw [ht] at h
        rw [← h] at ho
        simp [okC, lett, dig, lettI, digI] at ho
      · exact hv0
    obtain ⟨n, rfl⟩ := Int.eq_ofNat_of_zero_le h0
    rw [itoa_nn] at h
    subst h
    refine ⟨decDigits_dig n, ?_, ?_⟩
    · rw [numAt_dec]; simp at hb; omega
    · rw [numAt_dec]
  · cases h
theorem numB_dec (n : Nat) (h : n ≤ 9223372036854775807) : numB (Lib.decDigits n) = true := by
  unfold numB
  have h1 := atoi_itoa n h
  rw [itoa_nn] at h1
  rw [Lib.parseIntB_64, h1]
  simp only
  rw [itoa_nn, beq_self_eq_true]
theorem numB_nil : numB [] = false := rfl
theorem numB_no {r : Bytes} (ho : r.all okC = true) {c : UInt8} (hc : c ∈ r) (hd : dig c = false) : numB r = false := by
  rw [← Bool.not_eq_true]
  intro h
  have := (numB_true ho h).1 c hc
  rw [← dig_iff, hd] at this
  cases this
theorem dec_big {n : Nat} (h : 10 ≤ n) : Lib.decDigits n = Lib.decDigits (n / 10) ++ [UInt8.ofNat (48 + n % 10)] := by rw [Lib.decDigits, dif_neg (by omega)]
theorem dec_numAt (l : Bytes) (hd : ∀ c ∈ l, isDig c) (hne : l ≠ []) (h0 : l.head? ≠ some 48 ∨ l.length = 1) : l = Lib.decDigits (numAt 0 l) ∧ (l.head? ≠ some 48 → 1 ≤ numAt 0 l) := by
  induction h : l.length generalizing l with
  | zero => exact absurd (List.eq_nil_of_length_eq_zero h) hne
  | succ k ih =>
    obtain ⟨p, x, rfl⟩ : ∃ p x, l = p ++ [x] := ⟨l.dropLast, l.getLast hne, (List.dropLast_concat_getLast hne).symm⟩
    have hx : isDig x := hd x (by simp)
    unfold isDig at hx
    have hxe : UInt8.ofNat (48 + (x.toNat - 48)) = x := by rw [show 48 + (x.toNat - 48) = x.toNat by omega]; simp
    rcases Nat.eq_zero_or_pos k with rfl | hk
    · obtain rfl : p = [] := List.eq_nil_of_length_eq_zero (by simpa using h)
      rw [List.nil_append, numAt_one]
      constructor
      · rw [Lib.decDigits, dif_pos (by omega)]
        congr 1
        rw [show 48 + (10 * 0 + (x.toNat - 48)) = 48 + (x.toNat - 48) by omega, hxe]
      · intro h1
        simp at h1
        have : x.toNat ≠ 48 := fun e => h1 (UInt8.toNat_inj.1 e)
        omega
    · have hp : p ≠ [] := by rintro rfl; simp at h; omega
      have hh : (p ++ [x]).head? = p.head? := by
        cases p with
        | nil => exact absurd rfl hp
        | cons a b => rfl
      have hp0 : p.head? ≠ some 48 := by
        rcases h0 with h0 | h0
        · rwa [hh] at h0
        · simp at h0; exact absurd h0 (by intro e; exact hp e)
      obtain ⟨i1, i2⟩ := ih p (fun c hc => hd c (by simp [hc])) hp (.inl hp0) (by simpa using h)
      have i3 := i2 hp0
      rw [numAt_append, numAt_one]
      constructor
      · rw [dec_big (by omega), show (10 * numAt 0 p + (x.toNat - 48)) / 10 = numAt 0 p by omega, show (10 * numAt 0 p + (x.toNat - 48)) % 10 = x.toNat - 48 by omega, ← i1, hxe]
      · intro _; omega
theorem dec_head (u : Nat) : 1 ≤ u → ∃ c t, Lib.decDigits u = c :: t ∧ c ≠ 48 := by
  induction u using Nat.strongRecOn with
  | _ u ih =>
    intro hu
    rw [Lib.decDigits]
    by_cases h : u < 10
    · rw [dif_pos h]
      refine ⟨_, [], rfl, ?_⟩
      intro e
      have := congrArg UInt8.toNat e
      rw [digOf u h] at this
      simp at this
      omega
    · rw [dif_neg h]
      obtain ⟨c, t, h1, h2⟩ := ih (u / 10) (by omega) (by omega)
      exact ⟨c, _, by rw [h1]; rfl, h2⟩
/-- A row of digits is a number exactly if it has no zero in front, and is not too great. -/
theorem numB_digs {l : Bytes} (hd : ∀ c ∈ l, isDig c) (hne : l ≠ []) : numB l = (decide (l.head? ≠ some 48 ∨ l.length = 1) && decide (numAt 0 l ≤ 9223372036854775807)) := by
  rw [Bool.eq_iff_iff, Bool.and_eq_true, decide_eq_true_eq, decide_eq_true_eq]
  have ho : l.all okC = true := by
    rw [List.all_eq_true]
    intro c hc
    unfold okC
    rw [(dig_iff c).2 (hd c hc)]; simp
  constructor
  · intro h
    obtain ⟨_, h2, h3⟩ := numB_true ho h
    refine ⟨?_, h2⟩
    rcases Nat.eq_zero_or_pos (numAt 0 l) with h4 | h4
    · right; rw [h3, h4, Lib.decDigits, dif_pos (by omega)]; rfl
    · left
      obtain ⟨c, t, h5, h6⟩ := dec_head _ h4
      rw [h3, h5]
      simpa using h6
  · rintro ⟨h1, h2⟩
    rw [(dec_numAt l hd hne h1).1]
    exact numB_dec _ h2

/-! ### the order of strings of digits -/
theorem less_dig (x : Bytes) : ∀ (y : Bytes) (a b : Nat), x.length = y.length → (∀ c ∈ x, isDig c) → (∀ c ∈ y, isDig c) → a = b → (Op.bytesLess x y = decide (numAt a x < numAt b y)) := by
  induction x with
  | nil => intro y a b hl _ _ e; obtain rfl : y = [] := List.eq_nil_of_length_eq_zero hl.symm; subst e; simp [Op.bytesLess, numAt]
  | cons c x ih =>
    intro y a b hl hx hy e
    subst e
    cases y with
    | nil => simp at hl
    | cons d y =>
      have hc := hx c (by simp)
      have hd := hy d (by simp)
      unfold isDig at hc hd
      have hl' : x.length = y.length := by simpa using hl
      have bnd : ∀ (z : Bytes) (acc : Nat), (∀ c ∈ z, isDig c) → acc * 10 ^ z.length ≤ numAt acc z ∧ numAt acc z < (acc + 1) * 10 ^ z.length := by
        intro z
        induction z with
        | nil => intro acc _; simp [numAt]
        | cons e z ih =>
          intro acc hz
          have he := hz e (by simp)
          unfold isDig at he
          obtain ⟨i1, i2⟩ := ih (10 * acc + (e.toNat - 48)) (fun c hc => hz c (by simp [hc]))
          rw [numAt_cons, List.length_cons, Nat.pow_succ]
          constructor
          · refine Nat.le_trans ?_ i1
            rw [← Nat.mul_assoc, Nat.mul_right_comm]
            exact Nat.mul_le_mul_right _ (by omega)
          · refine Nat.lt_of_lt_of_le i2 ?_
            rw [← Nat.mul_assoc, Nat.mul_right_comm]
            exact Nat.mul_le_mul_right _ (by omega)
      rw [Op.bytesLess, numAt_cons, numAt_cons]
      by_cases h1 : c = d
      · subst h1
        rw [ih y (10 * a + (c.toNat - 48)) _ hl' (fun z hz => hx z (by simp [hz])) (fun z hz => hy z (by simp [hz])) rfl]
        simp
      · have hne : c.toNat ≠ d.toNat := fun e => h1 (UInt8.toNat_inj.1 e)
        have b1 := bnd x (10 * a + (c.toNat - 48)) (fun z hz => hx z (by simp [hz]))
        have b2 := bnd y (10 * a + (d.toNat - 48)) (fun z hz => hy z (by simp [hz]))
        rw [hl'] at b1
        by_cases h2 : c < d
        · have h3 : c.toNat < d.toNat := h2
          have h4 : numAt (10 * a + (c.toNat - 48)) x < numAt (10 * a + (d.toNat - 48)) y := Nat.lt_of_lt_of_le b1.2 (Nat.le_trans (Nat.mul_le_mul_right _ (by omega)) b2.1)
          simp [h2, h4]
        · have h3 : d.toNat < c.toNat := by
            have : ¬ c.toNat < d.toNat := h2
            omega
          have h4 : numAt (10 * a + (d.toNat - 48)) y < numAt (10 * a + (c.toNat - 48)) x := Nat.lt_of_lt_of_le b2.2 (Nat.le_trans (Nat.mul_le_mul_right _ (by omega)) b1.1)
          rw [decide_eq_false h2, beq_false_of_ne h1, decide_eq_false (by omega)]; rfl
theorem bound_dig (z : Bytes) : ∀ acc, (∀ c ∈ z, isDig c) → acc * 10 ^ z.length ≤ numAt acc z ∧ numAt acc z < (acc + 1) * 10 ^ z.length := by
  induction z with
  | nil => intro acc _; simp [numAt]
  | cons e z ih =>
    intro acc hz
    have he := hz e (by simp)
    unfold isDig at he
    obtain ⟨i1, i2⟩ := ih (10 * acc + (e.toNat - 48)) (fun c hc => hz c (by simp [hc]))
    rw [numAt_cons, List.length_cons, Nat.pow_succ]
    constructor
    · refine Nat.le_trans ?_ i1
      rw [← Nat.mul_assoc, Nat.mul_right_comm]
      exact Nat.mul_le_mul_right _ (by omega)
    · refine Nat.lt_of_lt_of_le i2 ?_
      rw [← Nat.mul_assoc, Nat.mul_right_comm]
      exact Nat.mul_le_mul_right _ (by omega)
def mostL : Bytes := [57, 50, 50, 51, 51, 55, 50, 48, 51, 54, 56, 53, 52, 55, 55, 53, 56, 48, 55]
/-- Digits without a zero in front that say more than the greatest number. -/
def great (s : Bytes) : Bool := decide (19 < s.length) || (decide (s.length = 19) && !(Op.bytesLess s mostL || s == mostL))
theorem great_is {s : Bytes} (hd : ∀ c ∈ s, isDig c) (hne : s ≠ []) (h0 : s.head? ≠ some 48 ∨ s.length = 1) : great s = decide (9223372036854775807 < numAt 0 s) := by
  unfold great
  rw [Bool.eq_iff_iff]
  simp only [Bool.or_eq_true, Bool.and_eq_true, decide_eq_true_eq, Bool.not_eq_true', Bool.or_eq_false_iff]
  have hm : numAt 0 mostL = 9223372036854775807 := by decide +kernel
  rcases Nat.lt_trichotomy s.length 19 with h | h | h
  · have := (bound_dig s 0 hd).2
    have h2 : 10 ^ s.length ≤ 10 ^ 18 := Nat.pow_le_pow_right (by omega) (by omega)
    omega
  · have := less_dig s mostL 0 0 h hd (by simp only [← dig_iff]; decide +kernel) rfl
    rw [this, hm]
    constructor
    · rintro (h1 | ⟨_, h1, h2⟩)
      · omega
      · simp at h1 h2
        rcases Nat.eq_or_lt_of_le h1 with h3 | h3
        · exfalso
          apply h2
          rw [(dec_numAt s hd hne h0).1, ← h3]
          decide +kernel
        · exact h3
    · intro h1
      refine .inr ⟨h, by simp; omega, ?_⟩
      simp
      intro e
      rw [e, hm] at h1
      omega
  · refine ⟨fun _ => ?_, fun _ => .inl h⟩
    cases s with
    | nil => simp at h
    | cons c r =>
      have hc := hd c (by simp)
      have hr := (bound_dig r (10 * 0 + (c.toNat - 48)) (fun x hx => hd x (by simp [hx]))).1
      rw [numAt_cons]
      have : c.toNat ≠ 48 := by
        rcases h0 with h0 | h0
        · intro e; apply h0; simp; exact UInt8.toNat_inj.1 e
        · simp at h0; subst h0; simp at h
      unfold isDig at hc
      have h3 : 10 ^ 19 ≤ 10 ^ r.length := Nat.pow_le_pow_right (by omega) (by simp at h; omega)
      have h4 : 1 * 10 ^ r.length ≤ (10 * 0 + (c.toNat - 48)) * 10 ^ r.length := Nat.mul_le_mul_right _ (by omega)
      have : (10 : Nat) ^ 19 = 10000000000000000000 := by decide
      omega
end Go.Proofs.YtoldhocdfkndbaaGreatDoor.L4

namespace Go.Proofs.YtoldhocdfkndbaaGreatDoor.L4
open Go

theorem okC_lett {c : UInt8} (h : lett c = true) : okC c = true := by unfold okC; rw [h]; rfl
theorem okC_dig {c : UInt8} (h : dig c = true) : okC c = true := by unfold okC; rw [h]; simp
theorem row_cons {c : UInt8} {r : Bytes} (h : okC c = true) : row (c :: r) = c :: row r := by unfold row; rw [List.takeWhile_cons, if_pos h]
theorem row_stop {c : UInt8} {r : Bytes} (h : okC c = false) : row (c :: r) = [] := by unfold row; rw [List.takeWhile_cons, if_neg (by simp [h])]
def sgHeads : Bytes := [124, 38, 61, 33, 60, 62, 40, 41, 123, 125, 91, 93, 44, 59, 43, 45, 42, 47, 37]
theorem sign_nil {s : Bytes} (h : ∀ x ∈ sgL, x.isPrefixOf s = false) : sign s = [] := by
  unfold sign
  rw [List.find?_eq_none.2 (fun x hx => by simp [h x hx])]
  rfl
theorem sgL_heads : ∀ x ∈ sgL, ∃ a ∈ sgHeads, x.head? = some a := by decide +kernel
theorem sign_none {c : UInt8} {r : Bytes} (h : c ∉ sgHeads) : sign (c :: r) = [] := by
  refine sign_nil fun x hx => ?_
  obtain ⟨a, ha, hxa⟩ := sgL_heads x hx
  cases x with
  | nil => simp at hxa
  | cons b t =>
    simp only [List.head?_cons, Option.some.injEq] at hxa
    subst hxa
    rw [List.isPrefixOf_cons_cons, Bool.and_eq_false_iff]
    left
    rw [beq_eq_false_iff_ne]
    rintro rfl
    exact h ha
theorem heads_not : ∀ a ∈ sgHeads, okC a = false := by decide +kernel
theorem sign_ok {c : UInt8} {r : Bytes} (h : okC c = true) : sign (c :: r) = [] := sign_none fun hm => by rw [heads_not c hm] at h; cases h
theorem kws_heads : ∀ x ∈ kwsL, (match x with | [] => false | c :: _ => lett c) = true := by decide +kernel
theorem kwB_lett {c : UInt8} {t : Bytes} (h : kwB (c :: t) = true) : lett c = true := by
  unfold kwB at h
  rw [List.contains_iff_mem] at h
  exact kws_heads _ h
theorem kwB_nil : kwB [] = false := by decide +kernel
theorem kws_len : ∀ x ∈ kwsL, x.length ≤ 6 := by decide +kernel
theorem kwB_len {s : Bytes} (h : kwB s = true) : s.length ≤ 6 := by
  unfold kwB at h
  rw [List.contains_iff_mem] at h
  exact kws_len _ h

theorem tok_letter {c : UInt8} {r : Bytes} (h : lett c = true) :
    tok (c :: r) = if kwB (row (c :: r)) then (3, row (c :: r)) else if 16 < (row (c :: r)).length then (0, []) else (1, row (c :: r)) := by
  have hr := row_cons (r := r) (okC_lett h)
  have h1 : numB (row (c :: r)) = false := numB_no (row_all _) (c := c) (by rw [hr]; simp) (lett_dig h)
  have h2 : sign (c :: r) = [] := sign_ok (okC_lett h)
  have h3 : nameB (row (c :: r)) = decide ((row (c :: r)).length ≤ 16) := by rw [hr]; simp [nameB, h]
  unfold tok
  rw [h1, h2, h3]
  by_cases hk : kwB (row (c :: r)) = true
  · simp [hk]
  · by_cases h4 : 16 < (row (c :: r)).length
    · simp [hk, h4, show ¬ (row (c :: r)).length ≤ 16 by omega]
    · simp [hk, h4, show (row (c :: r)).length ≤ 16 by omega]
/-- A row of digits with a letter or _ behind it begins no token. -/
theorem tok_spoilt {c d : UInt8} {r : Bytes} (h : dig c = true) (hd : d ∈ row (c :: r)) (hn : dig d = false) : tok (c :: r) = (0, []) := by
  have hr := row_cons (r := r) (okC_dig h)
  have hl : lett c = false := by
    rw [← Bool.not_eq_true]; intro hl; rw [lett_dig hl] at h; cases h
  have h1 : numB (row (c :: r)) = false := numB_no (row_all _) hd hn
  have h2 : sign (c :: r) = [] := sign_ok (okC_dig h)
  have h3 : nameB (row (c :: r)) = false := by rw [hr]; simp [nameB, hl]
  have h4 : kwB (row (c :: r)) = false := by
    rw [← Bool.not_eq_true]; intro hk; rw [hr] at hk; rw [kwB_lett hk] at hl; cases hl
  unfold tok
  rw [h1, h2, h3, h4]
  rfl
theorem tok_digits {c : UInt8} {r : Bytes} (h : dig c = true) (hd : ∀ d ∈ row (c :: r), isDig d) :
    tok (c :: r) = if (1 < (row (c :: r)).length ∧ c = 48) ∨ great (row (c :: r)) = true then (0, []) else (2, row (c :: r)) := by
  have hr := row_cons (r := r) (okC_dig h)
  have hl : lett c = false := by
    rw [← Bool.not_eq_true]; intro hl; rw [lett_dig hl] at h; cases h
  have h2 : sign (c :: r) = [] := sign_ok (okC_dig h)
  have h3 : nameB (row (c :: r)) = false := by rw [hr]; simp [nameB, hl]
  have h4 : kwB (row (c :: r)) = false := by
    rw [← Bool.not_eq_true]; intro hk; rw [hr] at hk; rw [kwB_lett hk] at hl; cases hl
  have hne : row (c :: r) ≠ [] := by rw [hr]; simp
  have h5 := numB_digs hd hne
  have hh : (row (c :: r)).head? = some c := by rw [hr]; rfl
  have hlen : 1 ≤ (row (c :: r)).length := by rw [hr]; simp
  unfold tok
  rw [h2, h3, h4, h5]
  by_cases hz : 1 < (row (c :: r)).length ∧ c = 48
  · have hz1 := hz.1
    have : ¬ ((row (c :: r)).head? ≠ some 48 ∨ (row (c :: r)).length = 1) := by
      rintro (h6 | h6)
      · exact h6 (hh.trans (by rw [hz.2]))
      · omega
    rw [decide_eq_false this, if_pos (Or.inl hz), Bool.false_and]
    rfl
  · have h0 : (row (c :: r)).head? ≠ some 48 ∨ (row (c :: r)).length = 1 := by
      by_cases hc : c = 48
      · right
        rcases Nat.lt_or_ge 1 (row (c :: r)).length with h6 | h6
        · exact absurd ⟨h6, hc⟩ hz
        · omega
      · left; rw [hh]; simpa using hc
    have hg := great_is hd hne h0
    rw [decide_eq_true h0, hg]
    simp only [hz, false_or, Bool.true_and, decide_eq_true_eq]
    by_cases hb : 9223372036854775807 < numAt 0 (row (c :: r))
    · simp [hb, show ¬ numAt 0 (row (c :: r)) ≤ 9223372036854775807 by omega]
    · simp [hb, show numAt 0 (row (c :: r)) ≤ 9223372036854775807 by omega]
theorem tok_other {c : UInt8} {r : Bytes} (h1 : lett c = false) (h2 : dig c = false) : tok (c :: r) = if sign (c :: r) ≠ [] then (4, sign (c :: r)) else (0, []) := by
  by_cases h3 : okC c = true
  · have hr := row_cons (r := r) h3
    have h4 : numB (row (c :: r)) = false := numB_no (row_all _) (c := c) (by rw [hr]; simp) h2
    have h5 : nameB (row (c :: r)) = false := by rw [hr]; simp [nameB, h1]
    have h6 : kwB (row (c :: r)) = false := by
      rw [← Bool.not_eq_true]; intro hk; rw [hr] at hk; rw [kwB_lett hk] at h1; cases h1
    unfold tok
    rw [h4, h5, h6]
    rfl
  · have hr := row_stop (r := r) (by simpa using h3 : okC c = false)
    unfold tok
    rw [hr, kwB_nil, numB_nil]
    rfl

/-! ### tokens and what stands behind them -/
def sepB (s : Bytes) : Bool := match s with | [] => true | c :: _ => whi c
theorem whi_ok {c : UInt8} (h : whi c = true) : c = 32 ∨ c = 9 ∨ c = 13 ∨ c = 10 := by
  unfold whi whiI at h
  simp only [Bool.or_eq_true, beq_iff_eq] at h
  rcases h with ((h | h) | h) | h
  · exact .inl (UInt8.toNat_inj.1 (by simpa using (show c.toNat = 32 by omega)))
  · exact .inr (.inl (UInt8.toNat_inj.1 (by simpa using (show c.toNat = 9 by omega))))
  · exact .inr (.inr (.inl (UInt8.toNat_inj.1 (by simpa using (show c.toNat = 13 by omega)))))
  · exact .inr (.inr (.inr (UInt8.toNat_inj.1 (by simpa using (show c.toNat = 10 by omega)))))
theorem row_sep {s : Bytes} (h : sepB s = true) : row s = [] := by
  cases s with
  | nil => rfl
  | cons c r => rcases whi_ok h with rfl | rfl | rfl | rfl <;> exact row_stop (by decide)
theorem row_of_all {t : Bytes} (h : t.all okC = true) (s : Bytes) : row (t ++ s) = t ++ row s := by
  unfold row
  rw [List.takeWhile_append_of_pos]
  intro a ha
  exact List.all_eq_true.1 h a ha
theorem row_self (s : Bytes) : row (row s) = row s := by
  have := row_of_all (row_all s) []
  simp only [List.append_nil] at this
  rw [this]
  show row s ++ [] = row s
  simp
def IsTok (k : Int) (t : Bytes) : Prop := tok t = (k, t) ∧ k ≠ 0
theorem sg_toks : ∀ x ∈ sgL, tok x = (4, x) := by decide +kernel
theorem sg_ne : ∀ x ∈ sgL, x ≠ [] := by decide +kernel
theorem sign_mem {s : Bytes} (h : sign s ≠ []) : sign s ∈ sgL ∧ (sign s).isPrefixOf s = true := by
  unfold sign at h ⊢
  cases hf : sgL.find? (fun x => x.isPrefixOf s) with
  | none => rw [hf] at h; exact absurd rfl h
  | some x => exact ⟨List.mem_of_find?_eq_some hf, by simpa using List.find?_some hf⟩
theorem tok_ok (t : Bytes) (h : t.all okC = true) (hne : t ≠ []) : tok t = if kwB t then (3, t) else if nameB t then (1, t) else if numB t then (2, t) else (0, []) := by
  have hr : row t = t := by have := row_of_all h []; simp only [List.append_nil] at this; rw [this]; show t ++ [] = t; simp
  have hs : sign t = [] := by
    cases t with
    | nil => exact absurd rfl hne
    | cons c r => exact sign_ok (by simpa using (List.all_eq_true.1 h c (by simp)))
  unfold tok
  rw [hr, hs]
  rfl
/-- The token of a text stands for itself. -/
theorem tok_is {r : Bytes} {k : Int} {t : Bytes} (h : tok r = (k, t)) (hk : k ≠ 0) : IsTok k t ∧ t <+: r ∧ t ≠ [] := by
  by_cases hr : row r = []
  · unfold tok at h
    rw [hr, kwB_nil, numB_nil] at h
    simp only [nameB, Bool.false_eq_true, if_false] at h
    split at h
    · rename_i hs
      cases h
      obtain ⟨h1, h2⟩ := sign_mem hs
      exact ⟨⟨sg_toks _ h1, by decide⟩, List.isPrefixOf_iff_prefix.1 h2, hs⟩
    · cases h; exact absurd rfl hk
  · have hs : sign r = [] := by
      cases r with
      | nil => exact absurd rfl hr
      | cons c r =>
        refine sign_ok ?_
        rw [← Bool.not_eq_false]
        exact fun hc => hr (row_stop hc)
    have h1 := tok_ok (row r) (row_all r) hr
    have h2 : tok r = tok (row r) := by
      rw [h1]
      unfold tok
      rw [hs]
      rfl
    have h3 : t = row r := by
      rw [h2, h1] at h
      split at h
      · cases h; rfl
      · split at h
        · cases h; rfl
        · split at h
          · cases h; rfl
          · cases h; exact absurd rfl hk
    subst h3
    exact ⟨⟨h2 ▸ h, hk⟩, row_pre r, hr⟩
theorem isPre_behind {y x : Bytes} {c : UInt8} {r : Bytes} (hc : c ∉ y) : y.isPrefixOf (x ++ c :: r) = y.isPrefixOf x := by
  induction y generalizing x with
  | nil => simp
  | cons a y ih =>
    simp only [List.mem_cons, not_or] at hc
    cases x with
    | nil => simp [List.isPrefixOf]; intro e; exact absurd e.symm hc.1
    | cons b x => rw [List.cons_append, List.isPrefixOf_cons_cons, List.isPrefixOf_cons_cons, ih hc.2]
theorem sg_white : ∀ y ∈ sgL, ∀ c ∈ ([32, 9, 13, 10] : Bytes), c ∉ y := by decide +kernel
theorem sign_sep {x s : Bytes} (h : sepB s = true) : sign (x ++ s) = sign x := by
  cases s with
  | nil => rw [List.append_nil]
  | cons c r =>
    have hc : c ∈ ([32, 9, 13, 10] : Bytes) := by rcases whi_ok h with rfl | rfl | rfl | rfl <;> decide
    have : ∀ l : List Bytes, (∀ y ∈ l, c ∉ y) → l.find? (fun y => y.isPrefixOf (x ++ c :: r)) = l.find? (fun y => y.isPrefixOf x) := by
      intro l
      induction l with
      | nil => intro _; rfl
      | cons y l ih =>
        intro hl
        rw [List.find?_cons, List.find?_cons, isPre_behind (hl y (by simp)), ih fun z hz => hl z (by simp [hz])]
    unfold sign
    rw [this sgL fun y hy => sg_white y hy c hc]
theorem tok_sep {k : Int} {t s : Bytes} (h : IsTok k t) (hs : sepB s = true) : tok (t ++ s) = (k, t) := by
  have hr : row (t ++ s) = row t := by
    by_cases ha : t.all okC = true
    · rw [row_of_all ha, row_sep hs]
      have := row_of_all ha []
      simp only [List.append_nil] at this
      rw [this]; rfl
    · unfold row
      rw [List.takeWhile_append]
      have : (List.takeWhile okC t).length ≠ t.length := by
        intro e
        apply ha
        have h1 : List.takeWhile okC t = t := (List.takeWhile_prefix _).eq_of_length e
        rw [← h1]; exact row_all t
      rw [if_neg this]
  have := h.1
  unfold tok at this ⊢
  rw [hr, sign_sep hs]
  exact this
theorem isTok_head {k : Int} {t : Bytes} (h : IsTok k t) : ∃ c r, t = c :: r ∧ whi c = false ∧ (c = 47 → r.head? ≠ some 47) := by
  obtain ⟨h1, h2, h3⟩ := tok_is h.1 h.2
  by_cases hr : row t = []
  · have hs : sign t = t ∧ t ∈ sgL := by
      have := h.1
      unfold tok at this
      rw [hr, kwB_nil, numB_nil] at this
      simp only [nameB, Bool.false_eq_true, if_false] at this
      split at this
      · rename_i hs
        have e : sign t = t := (Prod.mk.inj this).2
        exact ⟨e, e ▸ (sign_mem hs).1⟩
      · exact absurd (Prod.mk.inj this).1.symm h.2
    have : ∀ x ∈ sgL, (match x with | [] => false | c :: r => !whi c && !(c == 47 && r.head? == some 47)) = true := by decide +kernel
    have := this t hs.2
    cases t with
    | nil => exact absurd rfl h3
    | cons c r =>
      simp only [Bool.and_eq_true, Bool.not_eq_true', Bool.and_eq_false_iff, beq_eq_false_iff_ne] at this
      refine ⟨c, r, rfl, this.1, fun hc => ?_⟩
      rcases this.2 with h4 | h4
      · exact absurd hc h4
      · exact h4
  · cases t with
    | nil => exact absurd rfl h3
    | cons c r =>
      have hc : okC c = true := by
        rw [← Bool.not_eq_false]
        exact fun hc => hr (row_stop hc)
      refine ⟨c, r, rfl, ?_, ?_⟩
      · rw [← Bool.not_eq_true]
        intro hw
        rcases whi_ok hw with rfl | rfl | rfl | rfl <;> exact absurd hc (by decide)
      · rintro rfl; exact absurd hc (by decide)
theorem sk_tok {k : Int} {t s : Bytes} (h : IsTok k t) (hs : sepB s = true) : skN false (t ++ s) = 0 := by
  obtain ⟨c, r, rfl, h1, h2⟩ := isTok_head h
  rw [List.cons_append, skN, h1, if_neg (by simp)]
  rw [if_neg]
  rintro ⟨rfl, h3⟩
  cases r with
  | nil =>
    rw [List.nil_append] at h3
    cases s with
    | nil => cases h3
    | cons d s => simp at h3; subst h3; have hs : whi 47 = true := hs; exact absurd hs (by decide)
  | cons d r => exact h2 rfl (by simpa using h3)
end Go.Proofs.YtoldhocdfkndbaaGreatDoor.L4

namespace Go.Proofs.YtoldhocdfkndbaaGreatDoor.L4
open Go

structure It where
  g : Bytes
  k : Int
  t : Bytes
/-- White space and comments, closed: what stands behind is looked at afresh. -/
def GapOk (g : Bytes) : Prop := ∀ x, skN false (g ++ x) = g.length + skN false x
def SepG (g : Bytes) : Prop := ∃ c r, g = c :: r ∧ whi c = true
def tx : List It → Bytes → Bytes
  | [], last => last
  | i :: l, last => i.g ++ (i.t ++ tx l last)
def wt : Nat → List It → List Tk
  | _, [] => []
  | o, i :: l => ⟨i.k, i.t, o + i.g.length⟩ :: wt (o + i.g.length + i.t.length) l
theorem tx_append (a b : List It) (last : Bytes) : tx (a ++ b) last = tx a (tx b last) := by
  induction a with
  | nil => rfl
  | cons i a ih => simp only [List.cons_append, tx, ih]
theorem tx_last (a : List It) (last : Bytes) : tx a last = tx a [] ++ last := by
  induction a with
  | nil => rfl
  | cons i a ih => simp only [tx]; rw [ih]; simp
theorem wt_append (a b : List It) : ∀ o, wt o (a ++ b) = wt o a ++ wt (o + (tx a []).length) b := by
  induction a with
  | nil => intro o; rfl
  | cons i a ih =>
    intro o
    simp only [List.cons_append, wt, ih, tx, List.length_append]
    rw [show o + i.g.length + i.t.length + (tx a []).length = o + (i.g.length + (i.t.length + (tx a []).length)) by omega]
theorem wt_length (a : List It) : ∀ o, (wt o a).length = a.length := by
  induction a with
  | nil => intro o; rfl
  | cons i a ih => intro o; simp only [wt, List.length_cons, ih]
theorem sep_tx {l : List It} {last : Bytes} (hs : ∀ i ∈ l, SepG i.g) (hl : sepB last = true) : sepB (tx l last) = true := by
  cases l with
  | nil => exact hl
  | cons i l =>
    obtain ⟨c, r, h1, h2⟩ := hs i (by simp)
    simp only [tx, h1, List.cons_append]
    exact h2
theorem scan_items (S last : Bytes) (R : Option Nat) (hlast : sepB last = true)
    (hend : ∀ (F e : Nat), S.drop e = last → e ≤ S.length → S.length < F + skAt S e → scN S F (skAt S e) = ([], R)) :
    ∀ (l : List It), (∀ i ∈ l, GapOk i.g ∧ IsTok i.k i.t) → (∀ i ∈ l.tail, SepG i.g) → ∀ (F e : Nat), S.drop e = tx l last → e ≤ S.length → S.length < F + skAt S e → scN S F (skAt S e) = (wt e l, R) := by
  intro l
  induction l with
  | nil => intro _ _ F e h1 h2 h3; exact hend F e h1 h2 h3
  | cons i l ih =>
    intro hok hs F e h1 h2 h3
    obtain ⟨hg, ht⟩ := hok i (by simp)
    have hrest : sepB (tx l last) = true := sep_tx (fun j hj => hs j (by simpa using hj)) hlast
    obtain ⟨_, _, hne⟩ := tok_is ht.1 ht.2
    have htl : 0 < i.t.length := List.length_pos_iff.2 hne
    have hsk : skAt S e = e + i.g.length := by
      unfold skAt
      rw [h1, tx, hg, sk_tok ht hrest]; omega
    have hd : S.drop (e + i.g.length) = i.t ++ tx l last := by
      rw [← List.drop_drop, h1, tx, List.drop_left]
    have hlen : e + i.g.length + i.t.length ≤ S.length := by
      have := congrArg List.length hd
      rw [List.length_drop, List.length_append] at this
      omega
    have hd2 : S.drop (e + i.g.length + i.t.length) = tx l last := by
      rw [← List.drop_drop, hd, List.drop_left]
    rw [hsk] at h3 ⊢
    cases F with
    | zero => omega
    | succ F =>
      have htk : tok (S.drop (e + i.g.length)) = (i.k, i.t) := by rw [hd]; exact tok_sep ht hrest
      have hge : e + i.g.length + i.t.length ≤ skAt S (e + i.g.length + i.t.length) := (skAt_le _ _ hlen).1
      rw [scN, if_pos (by omega), htk]
      simp only [if_neg ht.2]
      rw [ih (fun j hj => hok j (by simp [hj])) (fun j hj => hs j (by simpa using List.mem_of_mem_tail hj)) F (e + i.g.length + i.t.length) hd2 hlen (by omega)]
      rfl
theorem end_good {S last : Bytes} (h : skN false last = last.length) (F e : Nat) (h1 : S.drop e = last) (h2 : e ≤ S.length) (_h3 : S.length < F + skAt S e) : scN S F (skAt S e) = ([], none) := by
  have hl : skAt S e = S.length := by
    unfold skAt
    rw [h1, h, ← h1, List.length_drop]; omega
  rw [hl]
  cases F with
  | zero => rfl
  | succ F => rw [scN, if_neg (by omega)]
/-- Tokens with gaps between them, and white space or a comment behind the last one, are found again. -/
theorem scan_back {l : List It} {last : Bytes} (hok : ∀ i ∈ l, GapOk i.g ∧ IsTok i.k i.t) (hs : ∀ i ∈ l.tail, SepG i.g) (hl : sepB last = true) (hk : skN false last = last.length) : scan (tx l last) = (wt 0 l, none) := by
  have h := scan_items (tx l last) last none hl (fun F e => end_good hk F e) l hok hs ((tx l last).length + 1) 0 (by simp) (Nat.zero_le _) (by omega)
  exact h

theorem end_bad {S x : Bytes} (h : skN false x = 0) (hx : x ≠ []) (ht : (tok x).1 = 0) (F e : Nat) (h1 : S.drop e = 10 :: x) (h2 : e ≤ S.length) (h3 : S.length < F + skAt S e) : scN S F (skAt S e) = ([], some (S.length - x.length)) := by
  have hlen := congrArg List.length h1
  rw [List.length_drop, List.length_cons] at hlen
  have hp := List.length_pos_iff.2 hx
  have hsk : skAt S e = e + 1 := by
    unfold skAt
    rw [h1, skN, if_pos (by decide), h]
  have hd : S.drop (e + 1) = x := by rw [← List.drop_drop, h1]; rfl
  rw [hsk] at h3 ⊢
  cases F with
  | zero => omega
  | succ F =>
    rw [scN, if_pos (by omega), hd, if_pos ht]
    congr 2; omega
/-- Where a text stands that begins no token, behind tokens and a line feed, the text is wrong. -/
theorem scan_bad {l : List It} {x : Bytes} (hok : ∀ i ∈ l, GapOk i.g ∧ IsTok i.k i.t) (hs : ∀ i ∈ l.tail, SepG i.g) (h : skN false x = 0) (hx : x ≠ []) (ht : (tok x).1 = 0) : (scan (tx l (10 :: x))).2 = some ((tx l (10 :: x)).length - x.length) := by
  have h := scan_items (tx l (10 :: x)) (10 :: x) _ (show whi 10 = true from by decide) (fun F e => end_bad h hx ht F e) l hok hs ((tx l (10 :: x)).length + 1) 0 (by simp) (Nat.zero_le _) (by omega)
  exact congrArg Prod.snd h

/-! ### what a scan gives -/
def Chain (s : Bytes) : Nat → List Tk → Prop
  | e, [] => e ≤ s.length ∧ skAt s e = s.length
  | e, t :: l => e ≤ s.length ∧ t.a = skAt s e ∧ t.a < s.length ∧ tok (s.drop t.a) = (t.k, t.t) ∧ t.k ≠ 0 ∧ Chain s (t.a + t.t.length) l
theorem tok_fits {s : Bytes} {a : Nat} {k : Int} {t : Bytes} (h : tok (s.drop a) = (k, t)) (hk : k ≠ 0) : a + t.length ≤ s.length ∧ 0 < t.length := by
  obtain ⟨_, h2, h3⟩ := tok_is h hk
  have hp := List.length_pos_iff.2 h3
  have := h2.length_le
  rw [List.length_drop] at this
  constructor
  · omega
  · exact hp
theorem chain_of (s : Bytes) : ∀ (F e : Nat) (l : List Tk), e ≤ s.length → s.length < F + skAt s e → scN s F (skAt s e) = (l, none) → Chain s e l := by
  intro F
  induction F with
  | zero =>
    intro e l he hF h
    have := (skAt_le s e he).2
    omega
  | succ F ih =>
    intro e l he hF h
    have hle := skAt_le s e he
    rw [scN] at h
    split at h
    · rename_i hlt
      split at h
      · simp at h
      · rename_i hk
        cases ht : tok (s.drop (skAt s e)) with
        | mk k t =>
          rw [ht] at h hk
          simp only at h hk
          obtain ⟨f1, f2⟩ := tok_fits ht hk
          have f3 := skAt_le s (skAt s e + t.length) f1
          cases hq : scN s F (skAt s (skAt s e + t.length)) with
          | mk l' o =>
            rw [hq] at h
            obtain ⟨rfl, rfl⟩ := Prod.mk.inj h
            exact ⟨he, rfl, hlt, ht, hk, ih _ _ f1 (by simp only; omega) hq⟩
    · rename_i hlt
      obtain ⟨rfl, _⟩ := Prod.mk.inj h
      exact ⟨he, by omega⟩
theorem scan_chain {s : Bytes} {l : List Tk} (h : scan s = (l, none)) : Chain s 0 l := chain_of s (s.length + 1) 0 l (Nat.zero_le _) (by omega) h
theorem scan_err (s : Bytes) : ∀ (F a b : Nat), (scN s F a).2 = some b → b < s.length := by
  intro F
  induction F with
  | zero => intro a b h; simp [scN] at h
  | succ F ih =>
    intro a b h
    rw [scN] at h
    split at h
    · rename_i hlt
      split at h
      · simp at h; omega
      · exact ih _ _ h
    · simp at h
/-- The end of the token ahead of the i-th one. -/
def endT (l : List Tk) : Nat → Nat
  | 0 => 0
  | i + 1 => match l[i]? with | some t => t.a + t.t.length | none => 0
theorem chain_at {s : Bytes} {l : List Tk} (h : Chain s 0 l) : ∀ i, i ≤ l.length → Chain s (endT l i) (l.drop i) := by
  intro i
  induction i with
  | zero => intro _; exact h
  | succ i ih =>
    intro hi
    have h1 := ih (by omega)
    have hd : l.drop i = l[i] :: l.drop (i + 1) := (List.getElem_cons_drop (by omega)).symm
    rw [hd] at h1
    obtain ⟨_, _, _, _, _, h2⟩ := h1
    rw [endT, List.getElem?_eq_getElem (by omega)]
    exact h2
/-- The law's reading of white space and comments. -/
def blankB : Bool → Bytes → Bool
  | _, [] => true
  | note, c :: r => if c = 10 then blankB false r else if note then blankB true r else if c = 47 ∧ r.head? = some 47 then blankB true r else if whi c then blankB false r else false
theorem blank_skip (r : Bytes) : ∀ n, blankB n (r.take (skN n r)) = true := by
  induction r with
  | nil => intro n; simp [blankB]
  | cons c r ih =>
    intro n
    cases n with
    | true =>
      rw [skN]
      by_cases h : c = 10
      · rw [if_pos h, Nat.add_comm, List.take_succ_cons, blankB, if_pos h]; exact ih false
      · rw [if_neg h, Nat.add_comm, List.take_succ_cons, blankB, if_neg h, if_pos rfl]; exact ih true
    | false =>
      rw [skN]
      by_cases hw : whi c = true
      · rw [if_pos hw, Nat.add_comm, List.take_succ_cons, blankB]
        by_cases h : c = 10
        · rw [if_pos h]; exact ih false
        · rw [if_neg h, if_neg (by simp), if_neg (by rintro ⟨rfl, _⟩; exact absurd hw (by decide)), if_pos hw]; exact ih false
      · rw [if_neg hw]
        by_cases h2 : c = 47 ∧ r.head? = some 47
        · rw [if_pos h2, Nat.add_comm, List.take_succ_cons, blankB, if_neg (by rw [h2.1]; decide), if_neg (by simp), if_pos]
          · exact ih true
          · refine ⟨h2.1, ?_⟩
            cases r with
            | nil => exact h2.2
            | cons d r =>
              have hd : d = 47 := by simpa using h2.2
              subst hd
              rw [skN, if_neg (by decide), Nat.add_comm, List.take_succ_cons]; rfl
        · rw [if_neg h2]; simp [blankB]
end Go.Proofs.YtoldhocdfkndbaaGreatDoor.L4
