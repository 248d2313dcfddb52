/-
  PLAIN WORDS: what a draft's numbers make: expressions, statements, blocks, functions; they have the right shape apart from their numbers.
  A draft's source in memory; next, name, expr: contracts.
-/
import Derived.Test.YthiilnhiihfknaaDoorSBx
import Derived.Lib.QuietBelow
import Derived.BigQuiet
import Derived.Test.YthiilnhiihfknaaDoorSNu
namespace Go.Proofs.YthiilnhiihfknaaDoor

def nextD (l : Bytes) (n a : Nat) : Nat := if h : a < l.length then l[a].toNat % n else 0
def stepD (l : Bytes) (a : Nat) : Nat := if a < l.length then a + 1 else a
theorem nextD_lt (l : Bytes) {n : Nat} (a : Nat) (h : 0 < n) : nextD l n a < n := by
  unfold nextD
  split
  · exact Nat.mod_lt _ h
  · exact h
theorem stepD_le (l : Bytes) {a : Nat} (h : a ≤ l.length) : stepD l a ≤ l.length := by unfold stepD; split <;> omega
def nmsD : List Bytes := [[97], [98], [99], [110], [120, 95, 49]]
def nameD (l : Bytes) (a : Nat) : Bytes := nmsD.getD (nextD l 5 a) []
def numsD : List Int := [0, 1, 2, 10, 9223372036854775807]
def calD : List Bytes := [[109, 97, 105, 110], [102], [103]]
theorem nameD_in (l : Bytes) (a : Nat) : nameD l a ∈ nmsD := by
  have h := nextD_lt l (n := 5) a (by omega)
  unfold nameD
  generalize nextD l 5 a = i at *
  match i, h with
  | 0, _ => decide
  | 1, _ => decide
  | 2, _ => decide
  | 3, _ => decide
  | 4, _ => decide
theorem nameD_ok (l : Bytes) (a : Nat) : nameB (nameD l a) = true := by
  have : ∀ x ∈ nmsD, nameB x = true := by decide +kernel
  exact this _ (nameD_in l a)
theorem nameD_ne (l : Bytes) (a : Nat) : nameD l a ≠ [] := by
  have : ∀ x ∈ nmsD, x ≠ [] := by decide +kernel
  exact this _ (nameD_in l a)
theorem nameD_len (l : Bytes) (a : Nat) : (nameD l a).length ≤ 3 := by
  have : ∀ x ∈ nmsD, x.length ≤ 3 := by decide +kernel
  exact this _ (nameD_in l a)
theorem calD_in {i : Nat} (h : i < 3) : calD.getD i [] ∈ calD := by
  match i, h with
  | 0, _ => decide
  | 1, _ => decide
  | 2, _ => decide
theorem calD_ok {i : Nat} (h : i < 3) : nameB (calD.getD i []) = true := by
  have : ∀ x ∈ calD, nameB x = true := by decide +kernel
  exact this _ (calD_in h)
theorem calD_ne {i : Nat} (h : i < 3) : calD.getD i [] ≠ [] := by
  have : ∀ x ∈ calD, x ≠ [] := by decide +kernel
  exact this _ (calD_in h)
theorem calD_len {i : Nat} (h : i < 3) : (calD.getD i []).length ≤ 4 := by
  have : ∀ x ∈ calD, x.length ≤ 4 := by decide +kernel
  exact this _ (calD_in h)
theorem numsD_ok (i : Nat) : 0 ≤ numsD.getD i 0 ∧ numsD.getD i 0 ≤ 9223372036854775807 := by
  match i with
  | 0 => decide
  | 1 => decide
  | 2 => decide
  | 3 => decide
  | 4 => decide
  | i + 5 => simp [numsD]

/-! ### expressions -/
def kindD (l : Bytes) (d a : Nat) : Nat := if d = 0 ∧ 5 ≤ nextD l 9 a ∧ nextD l 9 a ≤ 7 then 3 else nextD l 9 a
def exprD (l : Bytes) : Nat → Nat → Ex × Nat
  | 0, a => (⟨1, 0, 0, [], []⟩, a)
  | d + 1, a =>
    let a1 := stepD l a
    let a2 := stepD l a1
    if kindD l d a = 2 then (⟨2, 0, (nextD l 2 a1 : Int), [], []⟩, a2)
    else if kindD l d a = 3 ∨ kindD l d a = 4 then (⟨3, 0, 0, nameD l a1, []⟩, a2)
    else if kindD l d a = 5 then (⟨4, 14 + (nextD l 2 a1 : Int), 0, [], [(exprD l d a2).1]⟩, (exprD l d a2).2)
    else if kindD l d a = 6 then (⟨5, 1 + (nextD l 13 a1 : Int), 0, [], [(exprD l d a2).1, (exprD l d (exprD l d a2).2).1]⟩, (exprD l d (exprD l d a2).2).2)
    else if kindD l d a = 7 then (⟨6, 0, 0, nameD l a1, [(exprD l d a2).1]⟩, (exprD l d a2).2)
    else if kindD l d a = 8 then (⟨7, 0, 0, nameD l a1, []⟩, a2)
    else (⟨1, 0, numsD.getD (nextD l 5 a1) 0, [], []⟩, a2)
theorem howB_0 : howB [] 0 = true := by decide
theorem howB_2 {s : Bytes} (h1 : s ≠ []) (h2 : nameB s = true) : howB s 2 = true := by simp [howB, h1, h2]
theorem howB_1 {s : Bytes} (h2 : nameB s = true) : howB s 1 = true := by
  unfold howB
  split
  · decide
  · simp [h2]
/-- The fields of a drawn expression are right, and so are those of its parts. -/
theorem exprD_fit (l : Bytes) (d a : Nat) : fitB (exprD l (d + 1) a).1 = true := by
  have n2 := nextD_lt l (n := 2) (stepD l a) (by omega)
  have n13 := nextD_lt l (n := 13) (stepD l a) (by omega)
  have nn := howB_2 (nameD_ne l (stepD l a)) (nameD_ok l (stepD l a))
  have nm := numsD_ok (nextD l 5 (stepD l a))
  rw [exprD]
  split
  · simp [fitB, exRow, rowFit, howB_0]; omega
  split
  · simp [fitB, exRow, rowFit, nn]
  split
  · simp [fitB, exRow, rowFit, howB_0]; omega
  split
  · simp [fitB, exRow, rowFit, howB_0]; omega
  split
  · simp [fitB, exRow, rowFit, nn]
  split
  · simp [fitB, exRow, rowFit, nn]
  · generalize numsD.getD (nextD l 5 (stepD l a)) 0 = z at nm ⊢
    simp [fitB, exRow, rowFit, howB_0]; omega
theorem exprD_args (l : Bytes) (d a : Nat) : ∀ x ∈ (exprD l (d + 1) a).1.args, 0 < d ∧ ∃ b, x = (exprD l d b).1 := by
  have kd : ∀ {k}, kindD l d a = k → 5 ≤ k → k ≤ 7 → 0 < d := by
    intro k h h1 h2
    unfold kindD at h
    split at h
    · omega
    · rename_i hc
      rcases Nat.eq_zero_or_pos d with h0 | h0
      · exact absurd ⟨h0, by omega, by omega⟩ hc
      · exact h0
  rw [exprD]
  split
  · simp
  split
  · simp
  split
  · rename_i h; simp; exact ⟨kd h (by omega) (by omega), _, rfl⟩
  split
  · rename_i h; simp; exact ⟨⟨kd h (by omega) (by omega), _, rfl⟩, kd h (by omega) (by omega), _, rfl⟩
  split
  · rename_i h; simp; exact ⟨kd h (by omega) (by omega), _, rfl⟩
  split
  · simp
  · simp
theorem deps_some {f : Ex → Nat} {l : List Ex} (h : ∀ e ∈ l, f e ≠ 0) : ∃ d, deps f l = some d := by
  have key : ∀ (l : List Ex) (a : Nat), (∀ e ∈ l, f e ≠ 0) → ∃ d, List.foldlM (fun d e => if f e = 0 then none else some (max d (f e))) a l = some d := by
    intro l
    induction l with
    | nil => intro a _; exact ⟨a, rfl⟩
    | cons e l ih =>
      intro a h
      rw [List.foldlM_cons]
      simp only [h e (by simp), if_false, Option.bind_eq_bind, Option.bind_some]
      exact ih _ fun x hx => h x (by simp [hx])
  exact key l 0 h
theorem exprD_dep (l : Bytes) (d : Nat) : ∀ k a, d ≤ k → 0 < d → dep k (exprD l d a).1 ≠ 0 := by
  induction d with
  | zero => intro k a _ h; omega
  | succ d ih =>
    intro k a hk _
    cases k with
    | zero => omega
    | succ k =>
      rw [dep, if_pos (exprD_fit l d a)]
      obtain ⟨m, hm⟩ := deps_some (f := dep k) (l := (exprD l (d + 1) a).1.args) fun e he => by
        obtain ⟨h0, b, rfl⟩ := exprD_args l d a e he
        exact ih k b (by omega) h0
      rw [hm]
      simp [depOf]
theorem exprD_ok (l : Bytes) (a : Nat) : exB (exprD l 3 a).1 = true := by
  have := exprD_dep l 3 20 a (by omega) (by omega)
  simpa [exB] using this
theorem exprD_at (l : Bytes) (d : Nat) : ∀ a, a ≤ l.length → (exprD l d a).2 ≤ l.length := by
  induction d with
  | zero => intro a h; exact h
  | succ d ih =>
    intro a h
    have h1 := stepD_le l h
    have h2 := stepD_le l h1
    have i1 := ih _ h2
    have i2 := ih _ i1
    rw [exprD]
    repeat' split
    all_goals first | exact h2 | exact i1 | exact i2
def exprsD (l : Bytes) : Nat → Nat → List Ex × Nat
  | 0, a => ([], a)
  | n + 1, a => ((exprsD l n a).1 ++ [(exprD l 3 (exprsD l n a).2).1], (exprD l 3 (exprsD l n a).2).2)
theorem exprsD_len (l : Bytes) (n a : Nat) : (exprsD l n a).1.length = n := by
  induction n with
  | zero => rfl
  | succ n ih => simp [exprsD, ih]
theorem exprsD_at (l : Bytes) (n : Nat) : ∀ a, a ≤ l.length → (exprsD l n a).2 ≤ l.length := by
  induction n with
  | zero => intro a h; exact h
  | succ n ih => intro a h; exact exprD_at l 3 _ (ih a h)
theorem exprsD_ok (l : Bytes) (n a : Nat) : exsB (exprsD l n a).1 = true := by
  unfold exsB
  rw [List.all_eq_true]
  induction n with
  | zero => simp [exprsD]
  | succ n ih =>
    intro e he
    rw [exprsD, List.mem_append] at he
    rcases he with he | he
    · exact ih e he
    · simp only [List.mem_cons, List.not_mem_nil, or_false] at he
      subst he
      exact exprD_ok l _

/-! ### statements -/
/-- Where the next number lies, and how many statements there may still be. -/
structure Sr where
  pos : Nat
  left : Nat
def stD (l : Bytes) (blk : Sr → List St × Sr) (s : Sr) : St × Sr :=
  let k := nextD l 10 s.pos
  let a1 := stepD l s.pos
  let a2 := stepD l a1
  let a3 := stepD l a2
  if k = 0 then (⟨1, 0, nameD l a1, 1 + (nextD l 3 a2 : Int), [], (exprsD l (nextD l 2 a3) (stepD l a3)).1, [], []⟩, ⟨(exprsD l (nextD l 2 a3) (stepD l a3)).2, s.left⟩)
  else if k = 1 then (⟨2, 0, nameD l a1, 0, [], (exprsD l 1 a2).1, [], []⟩, ⟨(exprsD l 1 a2).2, s.left⟩)
  else if k = 2 then (⟨3, 0, nameD l a1, 0, [], (exprsD l 2 a2).1, [], []⟩, ⟨(exprsD l 2 a2).2, s.left⟩)
  else if k = 3 then (⟨4, 0, nameD l a1, 0, [], (exprsD l 1 a2).1, [], []⟩, ⟨(exprsD l 1 a2).2, s.left⟩)
  else if k = 4 then (⟨5, 0, nameD l a1, 0, [], [], [], []⟩, ⟨a2, s.left⟩)
  else if k = 5 then (⟨6, 0, [], 0, [], (exprsD l 1 a1).1, [], []⟩, ⟨(exprsD l 1 a1).2, s.left⟩)
  else if k = 6 then
    let x := exprsD l (nextD l 3 a2) a3
    if nextD l 2 x.2 = 1 then (⟨7, 0, nameD l (stepD l x.2), 0, calD.getD (nextD l 3 a1) [], x.1, [], []⟩, ⟨stepD l (stepD l x.2), s.left⟩)
    else (⟨7, 0, [], 0, calD.getD (nextD l 3 a1) [], x.1, [], []⟩, ⟨stepD l x.2, s.left⟩)
  else if k = 7 then (⟨8, 0, [], 0, [], (exprsD l (nextD l 2 a1) a2).1, [], []⟩, ⟨(exprsD l (nextD l 2 a1) a2).2, s.left⟩)
  else
    let x := exprsD l 1 a1
    let b := blk ⟨x.2, s.left⟩
    if k = 8 then (⟨9, 0, [], 0, [], x.1, b.1, (blk b.2).1⟩, (blk b.2).2)
    else (⟨10, 0, [], 0, [], x.1, b.1, []⟩, b.2)
theorem stD_head (l : Bytes) (blk : Sr → List St × Sr) (s : Sr) : headB (stD l blk s).1 = true := by
  have nn := fun a => howB_2 (nameD_ne l a) (nameD_ok l a)
  have n1 := fun a => howB_1 (nameD_ok l a)
  have eo := fun n a => exprsD_ok l n a
  have el := fun n a => exprsD_len l n a
  have n2 := fun a => nextD_lt l (n := 2) a (by omega)
  have n3 := fun a => nextD_lt l (n := 3) a (by omega)
  have h1 : howB [] 1 = true := by decide
  have hc := howB_2 (calD_ne (n3 (stepD l s.pos))) (calD_ok (n3 (stepD l s.pos)))
  unfold stD
  simp only
  generalize calD.getD (nextD l 3 (stepD l s.pos)) [] = cal at hc ⊢
  split
  · have := n3 (stepD l (stepD l s.pos)); have := n2 (stepD l (stepD l (stepD l s.pos)))
    simp [headB, stRow, rowHead, nn, howB_0, eo, el, typB]; omega
  split
  · simp [headB, stRow, rowHead, nn, howB_0, eo, el]
  split
  · simp [headB, stRow, rowHead, nn, howB_0, eo, el]
  split
  · simp [headB, stRow, rowHead, nn, howB_0, eo, el]
  split
  · simp [headB, stRow, rowHead, nn, howB_0, exsB]
  split
  · simp [headB, stRow, rowHead, howB_0, eo, el]
  split
  · have := n3 (stepD l (stepD l s.pos))
    split <;> (simp [headB, stRow, rowHead, n1, h1, hc, eo, el]; omega)
  split
  · have := n2 (stepD l s.pos)
    simp [headB, stRow, rowHead, howB_0, eo, el]; omega
  split
  · simp [headB, stRow, rowHead, howB_0, eo, el]
  · simp [headB, stRow, rowHead, howB_0, eo, el]
def loopD (st : Sr → St × Sr) : Nat → Sr → List St × Sr
  | 0, s => ([], s)
  | n + 1, s => if (loopD st n s).2.left = 0 then loopD st n s else
      ((loopD st n s).1 ++ [(st ⟨(loopD st n s).2.pos, (loopD st n s).2.left - 1⟩).1], (st ⟨(loopD st n s).2.pos, (loopD st n s).2.left - 1⟩).2)
theorem loopD_stop (st : Sr → St × Sr) (n : Nat) (s : Sr) (h : (loopD st n s).2.left = 0) : ∀ j, loopD st (n + j) s = loopD st n s := by
  intro j
  induction j with
  | zero => rfl
  | succ j ih => rw [← Nat.add_assoc, loopD, ih, if_pos h]
def blockD (l : Bytes) : Nat → Sr → List St × Sr
  | 0, s => ([], ⟨stepD l s.pos, s.left⟩)
  | h + 1, s => loopD (stD l (blockD l h)) (nextD l 4 s.pos) ⟨stepD l s.pos, s.left⟩
theorem vis_nil (F : Nat → St → Bool) (k no : Nat) : vis F k [] no = some no := by
  cases k with
  | zero => simp [vis]
  | succ k => rw [vis_succ]; rfl
def headF : Nat → St → Bool := fun _ s => headB s
/-- A block's statements are as many as there are fewer left; they are visited. -/
def VisD (f : Sr → List St × Sr) (h : Nat) : Prop := ∀ (s : Sr) (k no : Nat), h ≤ k → no + s.left ≤ 200 → (f s).2.left ≤ s.left ∧ vis headF k (f s).1 no = some (no + (s.left - (f s).2.left))
theorem stD_form (l : Bytes) (blk : Sr → List St × Sr) (s : Sr) : ((stD l blk s).1.body = [] ∧ (stD l blk s).1.els = [] ∧ (stD l blk s).2.left = s.left) ∨
    (∃ p, (stD l blk s).1.body = (blk ⟨p, s.left⟩).1 ∧ (stD l blk s).1.els = (blk (blk ⟨p, s.left⟩).2).1 ∧ (stD l blk s).2 = (blk (blk ⟨p, s.left⟩).2).2) ∨
    (∃ p, (stD l blk s).1.body = (blk ⟨p, s.left⟩).1 ∧ (stD l blk s).1.els = [] ∧ (stD l blk s).2 = (blk ⟨p, s.left⟩).2) := by
  generalize hx : stD l blk s = x
  unfold stD at hx
  simp only at hx
  split at hx
  · subst hx; exact .inl ⟨rfl, rfl, rfl⟩
  split at hx
  · subst hx; exact .inl ⟨rfl, rfl, rfl⟩
  split at hx
  · subst hx; exact .inl ⟨rfl, rfl, rfl⟩
  split at hx
  · subst hx; exact .inl ⟨rfl, rfl, rfl⟩
  split at hx
  · subst hx; exact .inl ⟨rfl, rfl, rfl⟩
  split at hx
  · subst hx; exact .inl ⟨rfl, rfl, rfl⟩
  split at hx
  · split at hx <;> (subst hx; exact .inl ⟨rfl, rfl, rfl⟩)
  split at hx
  · subst hx; exact .inl ⟨rfl, rfl, rfl⟩
  split at hx
  · subst hx; exact .inr (.inl ⟨_, rfl, rfl, rfl⟩)
  · subst hx; exact .inr (.inr ⟨_, rfl, rfl, rfl⟩)
theorem stD_vis {l : Bytes} {blk : Sr → List St × Sr} {h : Nat} (hb : VisD blk h) (s : Sr) (k no : Nat) (hk : h ≤ k) (hn : no + 1 + s.left ≤ 200) :
    (stD l blk s).2.left ≤ s.left ∧ visS headF k no (stD l blk s).1 = some (no + 1 + (s.left - (stD l blk s).2.left)) := by
  have hh : headF no (stD l blk s).1 = true := stD_head l blk s
  unfold visS
  rw [hh, if_neg (by simp; omega)]
  have vn := fun no => vis_nil headF k no
  rcases stD_form l blk s with ⟨h1, h2, h3⟩ | ⟨p, h1, h2, h3⟩ | ⟨p, h1, h2, h3⟩
  · rw [h1, h2, h3, vn, Option.bind_some, vn]
    exact ⟨Nat.le_refl _, by simp⟩
  · rw [h1, h2, h3]
    obtain ⟨c1, c2⟩ := hb ⟨p, s.left⟩ k (no + 1) hk hn
    simp only at c1 c2
    obtain ⟨c3, c4⟩ := hb (blk ⟨p, s.left⟩).2 k (no + 1 + (s.left - (blk ⟨p, s.left⟩).2.left)) hk (by omega)
    refine ⟨by omega, ?_⟩
    rw [c2, Option.bind_some, c4]
    congr 1
    omega
  · rw [h1, h2, h3]
    obtain ⟨c1, c2⟩ := hb ⟨p, s.left⟩ k (no + 1) hk hn
    refine ⟨c1, ?_⟩
    rw [c2, Option.bind_some, vn]
theorem loopD_vis {st : Sr → St × Sr} {h : Nat} (hs : ∀ (s : Sr) (k no : Nat), h ≤ k → no + 1 + s.left ≤ 200 → (st s).2.left ≤ s.left ∧ visS headF k no (st s).1 = some (no + 1 + (s.left - (st s).2.left))) (n : Nat) : VisD (loopD st n) (h + 1) := by
  intro s k no hk hn
  cases k with
  | zero => omega
  | succ k =>
    rw [vis_succ]
    induction n with
    | zero => simp [loopD]
    | succ n ih =>
      obtain ⟨i1, i2⟩ := ih
      rw [loopD]
      split
      · exact ⟨i1, i2⟩
      · have := hs ⟨(loopD st n s).2.pos, (loopD st n s).2.left - 1⟩ k (no + (s.left - (loopD st n s).2.left)) (by omega) (by simp only; omega)
        simp only at this ⊢
        refine ⟨by omega, ?_⟩
        rw [List.foldlM_append, i2]
        simp only [Option.bind_eq_bind, Option.bind_some, List.foldlM_cons, List.foldlM_nil]
        rw [this.2]
        simp only [Option.bind_some]
        show some _ = some _
        congr 1
        omega
theorem blockD_vis (l : Bytes) (h : Nat) : VisD (blockD l h) h := by
  induction h with
  | zero => intro s k no _ _; simp [blockD, vis_nil]
  | succ h ih =>
    intro s k no hk hn
    exact loopD_vis (fun s k no hk hn => stD_vis ih s k no hk hn) _ ⟨stepD l s.pos, s.left⟩ k no hk hn

/-! ### functions -/
def paramsD (l : Bytes) : Nat → Nat → List Pa × Nat
  | 0, a => ([], a)
  | n + 1, a => ((paramsD l n a).1 ++ [⟨nameD l (paramsD l n a).2, 1 + (nextD l 3 (stepD l (paramsD l n a).2) : Int)⟩], stepD l (stepD l (paramsD l n a).2))
theorem paramsD_len (l : Bytes) (n a : Nat) : (paramsD l n a).1.length = n := by
  induction n with
  | zero => rfl
  | succ n ih => simp [paramsD, ih]
theorem paramsD_ok (l : Bytes) (n a : Nat) (hn : n ≤ 8) : pasB (paramsD l n a).1 = true := by
  unfold pasB
  rw [paramsD_len, Bool.and_eq_true, List.all_eq_true, decide_eq_true_eq]
  refine ⟨hn, ?_⟩
  clear hn
  induction n with
  | zero => simp [paramsD]
  | succ n ih =>
    intro e he
    rw [paramsD, List.mem_append] at he
    rcases he with he | he
    · exact ih e he
    · simp only [List.mem_cons, List.not_mem_nil, or_false] at he
      subst he
      have := nextD_lt l (n := 3) (stepD l (paramsD l n a).2) (by omega)
      simp [paB, nameD_ok, typB]
      omega
def fnD (l : Bytes) (nm : Bytes) (s : Sr) : Fn × Sr :=
  let a1 := stepD l s.pos
  let ps := paramsD l (nextD l 3 a1) (stepD l a1)
  let b := blockD l 3 ⟨ps.2, 12⟩
  let c := blockD l 3 b.2
  (⟨nm, ps.1, (nextD l 4 s.pos : Int), b.1 ++ c.1, 0⟩, c.2)
theorem vis_append {F : Nat → St → Bool} {k : Nat} {a b : List St} {no m : Nat} (h : vis F (k + 1) a no = some m) : vis F (k + 1) (a ++ b) no = vis F (k + 1) b m := by
  rw [vis_succ] at h ⊢
  rw [List.foldlM_append, h, vis_succ]
  rfl
theorem fnD_ok (l : Bytes) (nm : Bytes) (s : Sr) (h : nameB nm = true) : fnB (fnD l nm s).1 = true := by
  have n3 := nextD_lt l (n := 3) (stepD l s.pos) (by omega)
  have n4 := nextD_lt l (n := 4) s.pos (by omega)
  unfold fnD fnB
  simp only
  rw [h, paramsD_ok l _ _ (by omega)]
  have hr : (decide ((nextD l 4 s.pos : Int) = 0) || typB (nextD l 4 s.pos)) = true := by simp [typB]; omega
  rw [hr]
  have b := blockD_vis l 3 ⟨(paramsD l (nextD l 3 (stepD l s.pos)) (stepD l (stepD l s.pos))).2, 12⟩ 20 0 (by omega) (by simp)
  have c := blockD_vis l 3 (blockD l 3 ⟨(paramsD l (nextD l 3 (stepD l s.pos)) (stepD l (stepD l s.pos))).2, 12⟩).2 20 (0 + (12 - (blockD l 3 ⟨(paramsD l (nextD l 3 (stepD l s.pos)) (stepD l (stepD l s.pos))).2, 12⟩).2.left)) (by omega) (by simp only at b; omega)
  unfold rightL
  show (true && true && true && (vis headF 20 _ 0).isSome) = true
  rw [vis_append b.2, c.2]
  rfl
def fnsD (l : Bytes) : Nat → Sr → List Fn × Sr
  | 0, s => ([], s)
  | n + 1, s => ((fnsD l n s).1 ++ [(fnD l (calD.getD n []) (fnsD l n s).2).1], (fnD l (calD.getD n []) (fnsD l n s).2).2)
theorem fnsD_len (l : Bytes) (n : Nat) (s : Sr) : (fnsD l n s).1.length = n := by
  induction n with
  | zero => rfl
  | succ n ih => simp [fnsD, ih]
/-- The functions of a draft, before they are numbered; its program. -/
def drawnD (l : Bytes) : List Fn := (fnsD (l.take 300) (1 + nextD (l.take 300) 3 0) ⟨stepD (l.take 300) 0, 0⟩).1
def madeD (l : Bytes) : List Fn := numbP (drawnD l)
theorem drawnD_len (l : Bytes) : 1 ≤ (drawnD l).length ∧ (drawnD l).length ≤ 3 := by
  have := nextD_lt (l.take 300) (n := 3) 0 (by omega)
  unfold drawnD
  rw [fnsD_len]
  omega
theorem fnsD_ok (l : Bytes) (n : Nat) (s : Sr) (hn : n ≤ 3) : ∀ f ∈ (fnsD l n s).1, fnB f = true := by
  induction n with
  | zero => simp [fnsD]
  | succ n ih =>
    intro f hf
    rw [fnsD, List.mem_append] at hf
    rcases hf with hf | hf
    · exact ih (by omega) f hf
    · simp only [List.mem_cons, List.not_mem_nil, or_false] at hf
      subst hf
      exact fnD_ok l _ _ (calD_ok (by omega))
theorem drawnD_ok (l : Bytes) : fnsB (drawnD l) = true := by
  have h := drawnD_len l
  unfold fnsB
  rw [Bool.and_eq_true, decide_eq_true_eq, List.all_eq_true]
  refine ⟨by omega, ?_⟩
  have := nextD_lt (l.take 300) (n := 3) 0 (by omega)
  exact fnsD_ok _ _ _ (by omega)
theorem madeD_eq (l : Bytes) : madeD l = (drawnD l).map numbF := by unfold madeD numbP; rw [if_pos (drawnD_ok l)]
theorem madeD_len (l : Bytes) : 1 ≤ (madeD l).length ∧ (madeD l).length ≤ 3 := by rw [madeD_eq, List.length_map]; exact drawnD_len l
end Go.Proofs.YthiilnhiihfknaaDoor

namespace Go.Proofs.YthiilnhiihfknaaDoor
open Go Go.RowKit Go.Sort

/-- A slice value that reads as these bytes, whose blocks are among R. -/
structure BR (w : World) (R : Nat → Prop) (l : Bytes) (v : Value) : Prop where
  ex : ∃ A c, v = .slice A l.length c ∧ l.length ≤ 9223372036854775807 ∧ ∀ (i : Nat) e, l[i]? = some e → ∃ b o, A = some ⟨b, o, none⟩ ∧ R b ∧ w.cell? ⟨b, o + i, none⟩ = some (.int .u8 (e.toNat : Int))
theorem BR.keep {w w' : World} {R R' : Nat → Prop} {l : Bytes} {v : Value} (h : BR w R l v) (hR : ∀ b, R b → R' b) (hk : ∀ b i, R b → w'.cell? ⟨b, i, none⟩ = w.cell? ⟨b, i, none⟩) : BR w' R' l v := by
  obtain ⟨A, c, h1, h2, h3⟩ := h.ex
  refine ⟨A, c, h1, h2, fun i e hi => ?_⟩
  obtain ⟨b, o, g1, g2, g3⟩ := h3 i e hi
  exact ⟨b, o, g1, hR b g2, (hk b _ g2).trans g3⟩
/-- The source: block S holds its three fields; its bytes lie below M, and so does S. -/
structure SrcAt (w : World) (S M : Nat) (l : Bytes) (s : Sr) : Prop where
  ex : ∃ v, BR w (fun b => b < M ∧ b ≠ S) l v ∧ w.heap[S]? = some (.cells #[v, .int .i64 s.pos, .int .i64 s.left] 84 (0, 0))
  lt : S < M
  le : M ≤ w.heap.size
  len : l.length ≤ 300
  pos : s.pos ≤ l.length
  left : s.left ≤ 12
section
variable {w w' : World} {S M : Nat} {l : Bytes} {s : Sr}
theorem SrcAt.slt (h : SrcAt w S M l s) : S < w.heap.size := Nat.lt_of_lt_of_le h.lt h.le
theorem SrcAt.low (h : SrcAt w S M l s) (hsz : w.heap.size ≤ w'.heap.size) (hk : ∀ b, b < M → w'.heap[b]? = w.heap[b]?) : SrcAt w' S M l s := by
  obtain ⟨v, h1, h2⟩ := h.ex
  exact ⟨⟨v, h1.keep (fun b hb' => hb') fun b i hb' => World.cell?_of_block (w := w) (hk b hb'.1), (hk S h.lt).trans h2⟩, h.lt, by have := h.le; omega, h.len, h.pos, h.left⟩
theorem SrcAt.bel (h : SrcAt w S M l s) (hb : Below w.heap.size w w') : SrcAt w' S M l s := h.low hb.size fun b hb' => hb.block b (Nat.lt_of_lt_of_le hb' h.le)
theorem SrcAt.set (h : SrcAt w S M l s) {p : Addr} (hp : M ≤ p.block) (u : Value) : SrcAt (w.setCell p u) S M l s := h.low (by rw [size_set]; exact Nat.le_refl _) fun b hb => Below.heap_setCell w p u b (by omega)
theorem set3 {v x y u : Value} {T : TypeId} (h : w.heap[S]? = some (.cells #[v, x, y] T (0, 0))) : (w.setCell ⟨S, 1, none⟩ u).heap[S]? = some (.cells #[v, u, y] T (0, 0)) ∧ (w.setCell ⟨S, 2, none⟩ u).heap[S]? = some (.cells #[v, x, u] T (0, 0)) := by
  constructor <;> simp [World.setCell, Array.getElem?_modify, h]
theorem SrcAt.setPos (h : SrcAt w S M l s) {p : Nat} (hp : p ≤ l.length) : SrcAt (w.setCell ⟨S, 1, none⟩ (.int .i64 p)) S M l ⟨p, s.left⟩ := by
  obtain ⟨v, h1, h2⟩ := h.ex
  exact ⟨⟨v, h1.keep (fun b hb' => hb') fun b i hb' => World.cell?_of_block (w := w) (Below.heap_setCell w _ _ b hb'.2), (set3 h2).1⟩, h.lt, by rw [size_set]; exact h.le, h.len, hp, h.left⟩
theorem SrcAt.setLeft (h : SrcAt w S M l s) {p : Nat} (hp : p ≤ 12) : SrcAt (w.setCell ⟨S, 2, none⟩ (.int .i64 p)) S M l ⟨s.pos, p⟩ := by
  obtain ⟨v, h1, h2⟩ := h.ex
  exact ⟨⟨v, h1.keep (fun b hb' => hb') fun b i hb' => World.cell?_of_block (w := w) (Below.heap_setCell w _ _ b hb'.2), (set3 h2).2⟩, h.lt, by rw [size_set]; exact h.le, h.len, h.pos, hp⟩
/-- Its cells: what the walk reads. -/
theorem SrcAt.cells (h : SrcAt w S M l s) : ∃ A c, w.cell? ⟨S, 0, none⟩ = some (.slice A l.length c) ∧ w.cell? ⟨S, 1, none⟩ = some (.int .i64 s.pos) ∧ w.cell? ⟨S, 2, none⟩ = some (.int .i64 s.left) ∧ w.frozen? ⟨S, 1, none⟩ = false ∧ w.frozen? ⟨S, 2, none⟩ = false ∧
    ∀ i (hi : i < l.length), ∃ b o, A = some ⟨b, o, none⟩ ∧ w.cell? ⟨b, o + i, none⟩ = some (.int .u8 (l[i].toNat : Int)) := by
  obtain ⟨v, h1, h2⟩ := h.ex
  obtain ⟨A, c, rfl, _, h3⟩ := h1.ex
  refine ⟨A, c, ?_, ?_, ?_, ?_, ?_, fun i hi => ?_⟩
  · rw [cell_of_row w S 0 _ _ _ h2]; rfl
  · rw [cell_of_row w S 1 _ _ _ h2]; rfl
  · rw [cell_of_row w S 2 _ _ _ h2]; rfl
  · simp [World.frozen?, h2]
  · simp [World.frozen?, h2]
  · obtain ⟨b, o, g1, _, g2⟩ := h3 i _ (List.getElem?_eq_getElem hi)
    exact ⟨b, o, g1, g2⟩
end
/-- What a call of the source's gives: a value, with the source moved on. -/
def NextR (w : World) (S M : Nat) (l : Bytes) (v : Value) (s' : Sr) (e : Ending) (w' : World) : Prop := e = .returned v ∧ Fr S S w w' ∧ SrcAt w' S M l s'

theorem next_end (S M : Nat) (l : Bytes) (s : Sr) (n : Nat) (w : World) (h : SrcAt w S M l s) (hlt : ¬ s.pos < l.length) :
    Calls Tryd.prog 66 #[.pointer (some ⟨S, 0, none⟩), .int .i64 (n : Int)] w (NextR w S M l (.int .i64 (nextD l n s.pos : Nat)) ⟨stepD l s.pos, s.left⟩) := by
  have HS := Lib.hid h
  obtain ⟨A, c, c0, c1, c2, _, _, _⟩ := h.cells
  have HE := Lib.hid (show nextD l n s.pos = 0 by simp [nextD, hlt])
  have HE2 := Lib.hid (show stepD l s.pos = s.pos by simp [stepD, hlt])
  have hge : decide (l.length ≤ s.pos) = true := by simp; omega
  have q0 := fun d os => cell_regrown c0 d os
  have q1 := fun d os => cell_regrown c1 d os
  clear h c0 c1 c2
  go_enter Tryd.func66, Tryd.ntmps66
  go_wp2_with fail
  refine wp_region_quiet_below (by kernel_rfl) (by kernel_rfl) ?_
  repeat (first | go_big_quiet_step (fail) | quiet_step (fail))
  refine wpQuiet_nil ?_
  intro _ hw'
  obtain ⟨⟨dq, osq⟩, hw''⟩ := hw'
  subst hw''
  have HB2 := Lib.hid (below_regrown w dq osq)
  go_wp2_with fail
  go_ret
  exact ⟨by rw [HE.out]; rfl, Fr.of HB2.out, by rw [HE2.out]; exact HS.out.bel HB2.out⟩
theorem next_on (S M : Nat) (l : Bytes) (s : Sr) (n : Nat) (hn : 0 < n) (hn2 : n ≤ 100) (w : World) (h : SrcAt w S M l s) (hlt : s.pos < l.length) :
    Calls Tryd.prog 66 #[.pointer (some ⟨S, 0, none⟩), .int .i64 (n : Int)] w (NextR w S M l (.int .i64 (nextD l n s.pos : Nat)) ⟨stepD l s.pos, s.left⟩) := by
  have HS := Lib.hid h
  obtain ⟨A, c, c0, c1, c2, _, _, _⟩ := h.cells
  have hlen := h.len
  have HE := Lib.hid (show nextD l n s.pos = l[s.pos].toNat % n by simp [nextD, hlt])
  have HE2 := Lib.hid (show stepD l s.pos = s.pos + 1 by simp [stepD, hlt])
  have hge : decide (l.length ≤ s.pos) = false := by simp; omega
  have q0 := fun d os => cell_regrown c0 d os
  have q1 := fun d os => cell_regrown c1 d os
  clear h c0 c1 c2
  go_enter Tryd.func66, Tryd.ntmps66
  go_wp2_with fail
  refine wp_region_quiet_below (by kernel_rfl) (by kernel_rfl) ?_
  repeat (first | go_big_quiet_step (fail) | quiet_step (fail))
  refine wpQuiet_nil ?_
  intro _ hw'
  obtain ⟨⟨dq, osq⟩, hw''⟩ := hw'
  subst hw''
  have HB2 := Lib.hid (below_regrown w dq osq)
  have S2 := HS.out.bel HB2.out
  have hc1 : ((s.pos + 1 : Nat) : Int) = (s.pos : Int) + 1 := by omega
  have S3 := S2.setPos (p := s.pos + 1) (by omega)
  have F3 : Fr S S w ((grow (redrawn w dq) osq).setCell ⟨S, 1, none⟩ (.int .i64 ((s.pos + 1 : Nat) : Int))) := Fr.set (N := S) (S := S) (Fr.of HB2.out) (p := ⟨S, 1, none⟩) (.inl rfl) _
  rw [hc1] at S3 F3
  have HS3 := Lib.hid S3
  have HF3 := Lib.hid F3
  obtain ⟨A', c', d0, d1, d2, f1, f2, _⟩ := S2.cells
  clear S2 S3 F3 q0 q1 d0 d2 hc1
  go_wp2_with fail
  obtain ⟨A3, c3, e0, e1, e2, _, _, hby⟩ := HS3.out.cells
  obtain ⟨b, o, rfl, e4⟩ := hby s.pos hlt
  generalize ((grow (redrawn w dq) osq).setCell ⟨S, 1, none⟩ (.int .i64 ((s.pos : Int) + 1))) = w3 at *
  have q0 := fun d os => cell_regrown e0 d os
  have q1 := fun d os => cell_regrown e1 d os
  have q4 := fun d os => cell_regrown e4 d os
  rw [show ((s.pos + 1 : Nat) : Int) = (s.pos : Int) + 1 by omega] at q1
  have hx : IntKind.i64.wrap ((s.pos : Int) + 1 - 1) = (s.pos : Int) := by rw [IntWalk.i64_in _ (by omega)]; omega
  have hr : ((l[s.pos].toNat : Int)).tmod (n : Int) = ((l[s.pos].toNat % n : Nat) : Int) := by
    rw [Int.tmod_eq_emod_of_nonneg (by omega)]; exact (Int.natCast_emod _ _).symm
  have hn0 : (n : Int) ≠ 0 := by omega
  have HR := Lib.hid hr
  have hlb : l[s.pos].toNat < 256 := l[s.pos].toNat_lt
  clear e0 e1 e2 e4 hby hr d1 f1 f2
  generalize l[s.pos].toNat = x at *
  refine wp_region_quiet_below (by kernel_rfl) (by kernel_rfl) ?_
  repeat (first | go_big_quiet_step (fail) | quiet_step (fail))
  refine wpQuiet_nil ?_
  intro _ hw'
  obtain ⟨⟨dr, osr⟩, hw''⟩ := hw'
  subst hw''
  have HB4 := Lib.hid (below_regrown w3 dr osr)
  go_wp2_with fail
  go_ret
  exact ⟨by rw [HE.out, ← HR.out]; rfl, HF3.out.trans (Fr.of HB4.out), by rw [HE2.out]; exact HS3.out.bel HB4.out⟩
theorem next_calls (S M : Nat) (l : Bytes) (s : Sr) (n : Nat) (hn : 0 < n) (hn2 : n ≤ 100) (w : World) (h : SrcAt w S M l s) :
    Calls Tryd.prog 66 #[.pointer (some ⟨S, 0, none⟩), .int .i64 (n : Int)] w (NextR w S M l (.int .i64 (nextD l n s.pos : Nat)) ⟨stepD l s.pos, s.left⟩) := by
  by_cases hlt : s.pos < l.length
  · exact next_on S M l s n hn hn2 w h hlt
  · exact next_end S M l s n w h hlt
theorem nmD_calls (S M : Nat) (l : Bytes) (s : Sr) (w : World) (h : SrcAt w S M l s) :
    Calls Tryd.prog 89 #[.pointer (some ⟨S, 0, none⟩)] w (NextR w S M l (.string (B (nameD l s.pos))) ⟨stepD l s.pos, s.left⟩) := by
  have hlt := h.slt
  have HS := Lib.hid h
  clear h
  go_enter Tryd.func89, Tryd.ntmps89
  go_wp2_with fail
  refine (next_calls S M l s 5 (by omega) (by omega) _ (HS.out.bel (bal _ _))).mono ?_
  rintro e w1 ⟨rfl, hf, hs⟩
  have HF := Lib.hid ((Fr.of (N := S) (S := S) (bal w _)).trans hf)
  have HS1 := Lib.hid hs
  have hi := nextD_lt l (n := 5) s.pos (by omega)
  have c := fun (i : Nat) (u : Value) (hu : (#[Value.string ⟨#[97]⟩, .string ⟨#[98]⟩, .string ⟨#[99]⟩, .string ⟨#[110]⟩, .string ⟨#[120, 95, 49]⟩] : Array Value)[i]? = some u) => (hf.cell (b := w.heap.size) (i := i) (by simp) (by omega) (by omega)).trans (newCell w _ _ i u hu)
  have HN := Lib.hid (show nameD l s.pos = nmsD.getD (nextD l 5 s.pos) [] from rfl)
  generalize nextD l 5 s.pos = i at *
  obtain rfl | rfl | rfl | rfl | rfl : i = 0 ∨ i = 1 ∨ i = 2 ∨ i = 3 ∨ i = 4 := by omega
  · have c0 := c 0 _ rfl
    clear c hf hs
    go_wp2_with fail
    go_ret
    exact ⟨by rw [HN.out]; rfl, HF.out, HS1.out⟩
  · have c0 := c 1 _ rfl
    clear c hf hs
    go_wp2_with fail
    go_ret
    exact ⟨by rw [HN.out]; rfl, HF.out, HS1.out⟩
  · have c0 := c 2 _ rfl
    clear c hf hs
    go_wp2_with fail
    go_ret
    exact ⟨by rw [HN.out]; rfl, HF.out, HS1.out⟩
  · have c0 := c 3 _ rfl
    clear c hf hs
    go_wp2_with fail
    go_ret
    exact ⟨by rw [HN.out]; rfl, HF.out, HS1.out⟩
  · have c0 := c 4 _ rfl
    clear c hf hs
    go_wp2_with fail
    go_ret
    exact ⟨by rw [HN.out]; rfl, HF.out, HS1.out⟩
end Go.Proofs.YthiilnhiihfknaaDoor
