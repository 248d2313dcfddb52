/-
  Texts of tokens with gaps between them, and what a scan of them gives; what a scan's tokens are. No program is named here.
-/
import Derived.Test.YtkpbplmmphpokaaGreatDoorLTok
namespace Go.Proofs.YtkpbplmmphpokaaGreatDoor.L4
open Go

structure It where
  g : Bytes
  k : Int
  t : Bytes
/-- White space and comments, closed: what stands behind is looked at afresh. -/
def GapOk (g : Bytes) : Prop := ∀ x, skN false (g ++ x) = g.length + skN false x
def SepG (g : Bytes) : Prop := ∃ c r, g = c :: r ∧ whi c = true
def tx : List It → Bytes → Bytes
  | [], last => last
  | i :: l, last => i.g ++ (i.t ++ tx l last)
def wt : Nat → List It → List Tk
  | _, [] => []
  | o, i :: l => ⟨i.k, i.t, o + i.g.length⟩ :: wt (o + i.g.length + i.t.length) l
theorem tx_append (a b : List It) (last : Bytes) : tx (a ++ b) last = tx a (tx b last) := by
  induction a with
  | nil => rfl
  | cons i a ih => simp only [List.cons_append, tx, ih]
theorem tx_last (a : List It) (last : Bytes) : tx a last = tx a [] ++ last := by
  induction a with
  | nil => rfl
  | cons i a ih => simp only [tx]; rw [ih]; simp
theorem wt_append (a b : List It) : ∀ o, wt o (a ++ b) = wt o a ++ wt (o + (tx a []).length) b := by
  induction a with
  | nil => intro o; rfl
  | cons i a ih =>
    intro o
    simp only [List.cons_append, wt, ih, tx, List.length_append]
    rw [show o + i.g.length + i.t.length + (tx a []).length = o + (i.g.length + (i.t.length + (tx a []).length)) by omega]
theorem wt_length (a : List It) : ∀ o, (wt o a).length = a.length := by
  induction a with
  | nil => intro o; rfl
  | cons i a ih => intro o; simp only [wt, List.length_cons, ih]
theorem sep_tx {l : List It} {last : Bytes} (hs : ∀ i ∈ l, SepG i.g) (hl : sepB last = true) : sepB (tx l last) = true := by
  cases l with
  | nil => exact hl
  | cons i l =>
    obtain ⟨c, r, h1, h2⟩ := hs i (by simp)
    simp only [tx, h1, List.cons_append]
    exact h2
theorem scan_items (S last : Bytes) (R : Option Nat) (hlast : sepB last = true)
    (hend : ∀ (F e : Nat), S.drop e = last → e ≤ S.length → S.length < F + skAt S e → scN S F (skAt S e) = ([], R)) :
    ∀ (l : List It), (∀ i ∈ l, GapOk i.g ∧ IsTok i.k i.t) → (∀ i ∈ l.tail, SepG i.g) → ∀ (F e : Nat), S.drop e = tx l last → e ≤ S.length → S.length < F + skAt S e → scN S F (skAt S e) = (wt e l, R) := by
  intro l
  induction l with
  | nil => intro _ _ F e h1 h2 h3; exact hend F e h1 h2 h3
  | cons i l ih =>
    intro hok hs F e h1 h2 h3
    obtain ⟨hg, ht⟩ := hok i (by simp)
    have hrest : sepB (tx l last) = true := sep_tx (fun j hj => hs j (by simpa using hj)) hlast
    obtain ⟨_, _, hne⟩ := tok_is ht.1 ht.2
    have htl : 0 < i.t.length := List.length_pos_iff.2 hne
    have hsk : skAt S e = e + i.g.length := by
      unfold skAt
      rw [h1, tx, hg, sk_tok ht hrest]; omega
    have hd : S.drop (e + i.g.length) = i.t ++ tx l last := by
      rw [← List.drop_drop, h1, tx, List.drop_left]
    have hlen : e + i.g.length + i.t.length ≤ S.length := by
      have := congrArg List.length hd
      rw [List.length_drop, List.length_append] at this
      omega
    have hd2 : S.drop (e + i.g.length + i.t.length) = tx l last := by
      rw [← List.drop_drop, hd, List.drop_left]
    rw [hsk] at h3 ⊢
    cases F with
    | zero => omega
    | succ F =>
      have htk : tok (S.drop (e + i.g.length)) = (i.k, i.t) := by rw [hd]; exact tok_sep ht hrest
      have hge : e + i.g.length + i.t.length ≤ skAt S (e + i.g.length + i.t.length) := (skAt_le _ _ hlen).1
      rw [scN, if_pos (by omega), htk]
      simp only [if_neg ht.2]
      rw [ih (fun j hj => hok j (by simp [hj])) (fun j hj => hs j (by simpa using List.mem_of_mem_tail hj)) F (e + i.g.length + i.t.length) hd2 hlen (by omega)]
      rfl
theorem end_good {S last : Bytes} (h : skN false last = last.length) (F e : Nat) (h1 : S.drop e = last) (h2 : e ≤ S.length) (_h3 : S.length < F + skAt S e) : scN S F (skAt S e) = ([], none) := by
  have hl : skAt S e = S.length := by
    unfold skAt
    rw [h1, h, ← h1, List.length_drop]; omega
  rw [hl]
  cases F with
  | zero => rfl
  | succ F => rw [scN, if_neg (by omega)]
/-- Tokens with gaps between them, and white space or a comment behind the last one, are found again. -/
theorem scan_back {l : List It} {last : Bytes} (hok : ∀ i ∈ l, GapOk i.g ∧ IsTok i.k i.t) (hs : ∀ i ∈ l.tail, SepG i.g) (hl : sepB last = true) (hk : skN false last = last.length) : scan (tx l last) = (wt 0 l, none) := by
  have h := scan_items (tx l last) last none hl (fun F e => end_good hk F e) l hok hs ((tx l last).length + 1) 0 (by simp) (Nat.zero_le _) (by omega)
  exact h

theorem end_bad {S x : Bytes} (h : skN false x = 0) (hx : x ≠ []) (ht : (tok x).1 = 0) (F e : Nat) (h1 : S.drop e = 10 :: x) (h2 : e ≤ S.length) (h3 : S.length < F + skAt S e) : scN S F (skAt S e) = ([], some (S.length - x.length)) := by
  have hlen := congrArg List.length h1
  rw [List.length_drop, List.length_cons] at hlen
  have hp := List.length_pos_iff.2 hx
  have hsk : skAt S e = e + 1 := by
    unfold skAt
    rw [h1, skN, if_pos (by decide), h]
  have hd : S.drop (e + 1) = x := by rw [← List.drop_drop, h1]; rfl
  rw [hsk] at h3 ⊢
  cases F with
  | zero => omega
  | succ F =>
    rw [scN, if_pos (by omega), hd, if_pos ht]
    congr 2; omega
/-- Where a text stands that begins no token, behind tokens and a line feed, the text is wrong. -/
theorem scan_bad {l : List It} {x : Bytes} (hok : ∀ i ∈ l, GapOk i.g ∧ IsTok i.k i.t) (hs : ∀ i ∈ l.tail, SepG i.g) (h : skN false x = 0) (hx : x ≠ []) (ht : (tok x).1 = 0) : (scan (tx l (10 :: x))).2 = some ((tx l (10 :: x)).length - x.length) := by
  have h := scan_items (tx l (10 :: x)) (10 :: x) _ (show whi 10 = true from by decide) (fun F e => end_bad h hx ht F e) l hok hs ((tx l (10 :: x)).length + 1) 0 (by simp) (Nat.zero_le _) (by omega)
  exact congrArg Prod.snd h

/-! ### what a scan gives -/
def Chain (s : Bytes) : Nat → List Tk → Prop
  | e, [] => e ≤ s.length ∧ skAt s e = s.length
  | e, t :: l => e ≤ s.length ∧ t.a = skAt s e ∧ t.a < s.length ∧ tok (s.drop t.a) = (t.k, t.t) ∧ t.k ≠ 0 ∧ Chain s (t.a + t.t.length) l
theorem tok_fits {s : Bytes} {a : Nat} {k : Int} {t : Bytes} (h : tok (s.drop a) = (k, t)) (hk : k ≠ 0) : a + t.length ≤ s.length ∧ 0 < t.length := by
  obtain ⟨_, h2, h3⟩ := tok_is h hk
  have hp := List.length_pos_iff.2 h3
  have := h2.length_le
  rw [List.length_drop] at this
  constructor
  · omega
  · exact hp
theorem chain_of (s : Bytes) : ∀ (F e : Nat) (l : List Tk), e ≤ s.length → s.length < F + skAt s e → scN s F (skAt s e) = (l, none) → Chain s e l := by
  intro F
  induction F with
  | zero =>
    intro e l he hF h
    have := (skAt_le s e he).2
    omega
  | succ F ih =>
    intro e l he hF h
    have hle := skAt_le s e he
    rw [scN] at h
    split at h
    · rename_i hlt
      split at h
      · simp at h
      · rename_i hk
        cases ht : tok (s.drop (skAt s e)) with
        | mk k t =>
          rw [ht] at h hk
          simp only at h hk
          obtain ⟨f1, f2⟩ := tok_fits ht hk
          have f3 := skAt_le s (skAt s e + t.length) f1
          cases hq : scN s F (skAt s (skAt s e + t.length)) with
          | mk l' o =>
            rw [hq] at h
            obtain ⟨rfl, rfl⟩ := Prod.mk.inj h
            exact ⟨he, rfl, hlt, ht, hk, ih _ _ f1 (by simp only; omega) hq⟩
    · rename_i hlt
      obtain ⟨rfl, _⟩ := Prod.mk.inj h
      exact ⟨he, by omega⟩
theorem scan_chain {s : Bytes} {l : List Tk} (h : scan s = (l, none)) : Chain s 0 l := chain_of s (s.length + 1) 0 l (Nat.zero_le _) (by omega) h
theorem scan_err (s : Bytes) : ∀ (F a b : Nat), (scN s F a).2 = some b → b < s.length := by
  intro F
  induction F with
  | zero => intro a b h; simp [scN] at h
  | succ F ih =>
    intro a b h
    rw [scN] at h
    split at h
    · rename_i hlt
      split at h
      · simp at h; omega
      · exact ih _ _ h
    · simp at h
/-- The end of the token ahead of the i-th one. -/
def endT (l : List Tk) : Nat → Nat
  | 0 => 0
  | i + 1 => match l[i]? with | some t => t.a + t.t.length | none => 0
theorem chain_at {s : Bytes} {l : List Tk} (h : Chain s 0 l) : ∀ i, i ≤ l.length → Chain s (endT l i) (l.drop i) := by
  intro i
  induction i with
  | zero => intro _; exact h
  | succ i ih =>
    intro hi
    have h1 := ih (by omega)
    have hd : l.drop i = l[i] :: l.drop (i + 1) := (List.getElem_cons_drop (by omega)).symm
    rw [hd] at h1
    obtain ⟨_, _, _, _, _, h2⟩ := h1
    rw [endT, List.getElem?_eq_getElem (by omega)]
    exact h2
/-- The law's reading of white space and comments. -/
def blankB : Bool → Bytes → Bool
  | _, [] => true
  | note, c :: r => if c = 10 then blankB false r else if note then blankB true r else if c = 47 ∧ r.head? = some 47 then blankB true r else if whi c then blankB false r else false
theorem blank_skip (r : Bytes) : ∀ n, blankB n (r.take (skN n r)) = true := by
  induction r with
  | nil => intro n; simp [blankB]
  | cons c r ih =>
    intro n
    cases n with
    | true =>
      rw [skN]
      by_cases h : c = 10
      · rw [if_pos h, Nat.add_comm, List.take_succ_cons, blankB, if_pos h]; exact ih false
      · rw [if_neg h, Nat.add_comm, List.take_succ_cons, blankB, if_neg h, if_pos rfl]; exact ih true
    | false =>
      rw [skN]
      by_cases hw : whi c = true
      · rw [if_pos hw, Nat.add_comm, List.take_succ_cons, blankB]
        by_cases h : c = 10
        · rw [if_pos h]; exact ih false
        · rw [if_neg h, if_neg (by simp), if_neg (by rintro ⟨rfl, _⟩; exact absurd hw (by decide)), if_pos hw]; exact ih false
      · rw [if_neg hw]
        by_cases h2 : c = 47 ∧ r.head? = some 47
        · rw [if_pos h2, Nat.add_comm, List.take_succ_cons, blankB, if_neg (by rw [h2.1]; decide), if_neg (by simp), if_pos]
          · exact ih true
          · refine ⟨h2.1, ?_⟩
            cases r with
            | nil => exact h2.2
            | cons d r =>
              have hd : d = 47 := by simpa using h2.2
              subst hd
              rw [skN, if_neg (by decide), Nat.add_comm, List.take_succ_cons]; rfl
        · rw [if_neg h2]; simp [blankB]
end Go.Proofs.YtkpbplmmphpokaaGreatDoor.L4
