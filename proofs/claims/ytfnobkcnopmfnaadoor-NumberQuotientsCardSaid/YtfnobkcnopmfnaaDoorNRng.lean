/-
  A LAW FOR 'for x := range seq { .. }' WHERE THE ITERATOR WRITES CELLS BETWEEN TWO ROUNDS: what it captured (blocks from lo on, below the maker's heap), and K blocks of its own, laid when its call begins. No program is named here.
-/
import Derived.RangeFuncFrom
import Derived.WalkKit
import Derived.WalkSmall
namespace Go.Proofs.YtfnobkcnopmfnaaDoor
open Go Go.RowKit

/-- The blocks from lo to hi lie as they lay. -/
structure KeepsIn (lo hi : Nat) (W W' : World) : Prop where
  size : W.heap.size ≤ W'.heap.size
  same : ∀ k, lo ≤ k → k < hi → k < W.heap.size → W'.heap[k]? = W.heap[k]?

theorem KeepsIn.refl (lo hi : Nat) (W : World) : KeepsIn lo hi W W := ⟨Nat.le_refl _, fun _ _ _ _ => rfl⟩
theorem KeepsIn.trans {lo hi : Nat} {A B C : World} (h : KeepsIn lo hi A B) (k : KeepsIn lo hi B C) : KeepsIn lo hi A C :=
  ⟨Nat.le_trans h.size k.size, fun i h1 h2 h3 => (k.same i h1 h2 (Nat.lt_of_lt_of_le h3 h.size)).trans (h.same i h1 h2 h3)⟩
theorem KeepsIn.alloc {lo hi : Nat} {A W : World} (h : KeepsIn lo hi A W) (o : Obj) : KeepsIn lo hi A (W.alloc o) :=
  h.trans ⟨by simp, fun k _ _ h3 => Below.heap_alloc W o k h3⟩
theorem KeepsIn.drew {lo hi : Nat} {A W : World} (h : KeepsIn lo hi A W) : KeepsIn lo hi A W.drew := ⟨h.size, h.same⟩
theorem KeepsIn.drewN {lo hi : Nat} {A W : World} (h : KeepsIn lo hi A W) (n : Nat) : KeepsIn lo hi A (W.drewN n) := by
  have e : (W.drewN n).heap = W.heap := by simp
  exact ⟨by rw [e]; exact h.size, fun k a b c => by rw [e]; exact h.same k a b c⟩
theorem KeepsIn.setCell {lo hi : Nat} {A W : World} (h : KeepsIn lo hi A W) {p : Addr} (hp : p.block < lo ∨ hi ≤ p.block) (u : Value) : KeepsIn lo hi A (W.setCell p u) :=
  h.trans ⟨by simp [World.setCell], fun k h1 h2 _ => Below.heap_setCell W p u k (by omega)⟩
theorem KeepsIn.below {lo hi B : Nat} {A W W' : World} (h : KeepsIn lo hi A W) (hb : Below B W W') (hB : hi ≤ B) : KeepsIn lo hi A W' :=
  h.trans ⟨hb.size, fun k _ h2 _ => hb.block k (by omega)⟩
theorem KeepsIn.mono {lo hi lo' hi' : Nat} {A W : World} (h : KeepsIn lo hi A W) (h1 : lo ≤ lo') (h2 : hi' ≤ hi) : KeepsIn lo' hi' A W :=
  ⟨h.size, fun k a b c => h.same k (by omega) (by omega) c⟩
theorem KeepsIn.cell {lo hi : Nat} {W W' : World} (h : KeepsIn lo hi W W') {p : Addr} (h1 : lo ≤ p.block) (h2 : p.block < hi) {v : Value} (hv : W.cell? p = some v) : W'.cell? p = some v :=
  (World.cell?_of_block (h.same p.block h1 h2 (World.block_lt_of_cell? W p hv))).trans hv
theorem KeepsIn.frozen {lo hi : Nat} {W W' : World} (h : KeepsIn lo hi W W') {p : Addr} (h1 : lo ≤ p.block) (h2 : p.block < hi) (h3 : p.block < W.heap.size) : W'.frozen? p = W.frozen? p :=
  World.frozen?_of_block (h.same p.block h1 h2 h3)

/-- A turn of one block between lo and hi, and new blocks, are abided. -/
def AbidesIn {β : Type} (lo hi : Nat) (J : β → World → Prop) : Prop :=
  ∀ s W W' row, J s W → W.grownBy W' row → (∀ r, row = some r → lo ≤ r ∧ r < hi) → J s W'

theorem AbidesIn.putObj {β : Type} {lo hi : Nat} {J : β → World → Prop} (h : AbidesIn lo hi J) {s : β} {W : World} {l : Nat} (o : Obj) (hs : J s W) (h1 : lo ≤ l) (h2 : l < hi) : J s (W.putObj l o) :=
  h s W _ (some l) hs (grownBy_putObj' W l o) (fun r e => by cases e; exact ⟨h1, h2⟩)
theorem AbidesIn.alloc {β : Type} {lo hi : Nat} {J : β → World → Prop} (h : AbidesIn lo hi J) {s : β} {W : World} (o : Obj) (hs : J s W) : J s (W.alloc o) :=
  h s W _ none hs (World.grownBy_alloc W o none) (fun r e => by cases e)
theorem AbidesIn.and {β : Type} {lo hi : Nat} {I I' : β → World → Prop} (h : AbidesIn lo hi I) (h' : AbidesIn lo hi I') : AbidesIn lo hi (fun s W => I s W ∧ I' s W) :=
  fun s W W' row hs hg hr => ⟨h s W W' row hs.1 hg hr, h' s W W' row hs.2 hg hr⟩
theorem AbidesIn.pure {β : Type} (lo hi : Nat) (p : β → Prop) : AbidesIn lo hi (fun s (_ : World) => p s) := fun _ _ _ _ hs _ _ => hs
theorem AbidesIn.below {β : Type} {n₀ lo hi : Nat} {w₀ : World} (hn : n₀ ≤ w₀.heap.size) (hB : n₀ ≤ lo) : AbidesIn lo hi (fun (_ : β) W => Below n₀ w₀ W) :=
  fun _ _ _ _ hs hg hr => hs.grown hg (Nat.le_trans hn hs.size) (fun k e => Nat.le_trans hB (hr k e).1)
/-- A cell in a block below lo. -/
theorem AbidesIn.cell {β : Type} {lo hi : Nat} (p : Addr) (v : β → Value) (hp : p.block < lo) : AbidesIn lo hi (fun s W => W.cell? p = some (v s)) :=
  fun _ W _ _ hs hg hr => hg.cell hs (fun e => by have := (hr _ e.symm).1; omega)
theorem AbidesIn.frozen {β : Type} {lo hi : Nat} (p : Addr) (hp : p.block < lo) : AbidesIn lo hi (fun (_ : β) W => p.block < W.heap.size ∧ W.frozen? p = false) :=
  fun _ W W' _ hs hg hr => ⟨Nat.lt_of_lt_of_le hs.1 hg.size, (World.frozen?_of_block (hg.block p.block hs.1 (fun e => by have := (hr _ e.symm).1; omega))).trans hs.2⟩

/-- A turn of one block of a kind, and new blocks, are abided. -/
def AbidesOn {β : Type} (own : Nat → Prop) (J : β → World → Prop) : Prop :=
  ∀ s W W' row, J s W → W.grownBy W' row → (∀ r, row = some r → own r) → J s W'
theorem AbidesIn.on {β : Type} {lo hi : Nat} {own : Nat → Prop} {J : β → World → Prop} (h : AbidesIn lo hi J) (hr : ∀ r, own r → lo ≤ r ∧ r < hi) : AbidesOn own J :=
  fun s W W' row hs hg ho => h s W W' row hs hg (fun r e => hr r (ho r e))
/-- The blocks that an iterator may turn: what it captured, and its own. -/
abbrev ownOf (lo c n K : Nat) (r : Nat) : Prop := (lo ≤ r ∧ r < c) ∨ (n ≤ r ∧ r < n + K)

/-- THE ITERATOR's CONTRACT. -/
def SeqStopsC {α : Type} (F : Fence) (n : Nat) (P : Program) (g : Nat) (lb : Array Value) (encs : α → Array Value) (lo K : Nat) (S Sp : List α → Prop) (N : Nat) (w : World) : Prop :=
  ∀ (l : Nat) (J Jx : List α → World → Prop) (W : World), Below w.heap.size w W → AbidesOn (ownOf lo w.heap.size W.heap.size K) J → AbidesOn (ownOf lo w.heap.size W.heap.size K) Jx →
    (∀ pre x W1, J pre W1 → pre.length < N → Sp (pre ++ [x]) → W.heap.size + K ≤ W1.heap.size → YieldAt F (n - 1) P l (encs x) W1 fun e W' =>
      (e = .returned (.bool true) ∧ J (pre ++ [x]) W' ∧ KeepsIn lo w.heap.size W1 W' ∧ KeepsIn W.heap.size (W.heap.size + K) W1 W') ∨ (e = .returned (.bool false) ∧ Jx (pre ++ [x]) W')) →
    J [] W →
    CallsIn F n P g (#[.func (.yield l) #[] #[]] ++ lb) W fun e W' => (∃ v, e = .returned v) ∧ ((∃ xs, S xs ∧ J xs W') ∨ (∃ pre, Sp pre ∧ Jx pre W'))

/-- HOW THE BODY OF A ROUND MAY BE LEFT. -/
def ownPostR {α : Type} (lo hi : Nat) (I : List α → World → Prop) (Ix : Code → List α → World → Prop) (xs : List α) (W : World) : Exit → Act → World → Prop
  | .normal, _, W' => KeepsIn lo hi W W' ∧ I xs W'
  | .ret, _, W' => KeepsIn lo hi W W' ∧ Ix .ret xs W'
  | .exit id, _, W' => KeepsIn lo hi W W' ∧ Ix (.exit id) xs W'
  | .goto t, _, W' => KeepsIn lo hi W W' ∧ Ix (.goto t) xs W'
  | .panic _, _, _ => False
  | .outgrown, _, _ => False

variable {F : Fence} {n : Nat} {P : Program}

theorem wpIn_rangeFunc_ownC {α : Type} {g : Operand} {ps : Array Tmp} {assign body : Code} {Q : Exit → Act → World → Prop} {a : Act} {w : World}
    (hro : F.round = none) (h1 : 1 ≤ n) {gf : Nat} {lb : Array Value} (hg : a.eval g = .func (.func gf) #[] lb) (hFg : F.fn gf) (eg : ∀ args w, (callFunc gf args).run P w = .ok (.enter gf args) w)
    {encs : α → Array Value} {lo K : Nat} {S Sp : List α → Prop} {N : Nat} {w0 : World} (hseq : SeqStopsC F (n - 1) P gf lb encs lo K S Sp N w0)
    (hb0 : Below w0.heap.size w0 w) (hps : ∀ x, (encs x).size = ps.size)
    (I : List α → World → Prop) (Ix : Code → List α → World → Prop) (hlo : lo ≤ w0.heap.size) (hI : AbidesIn lo (w.heap.size + 2 + K) I) (hIx : ∀ c, AbidesIn lo (w.heap.size + 2 + K) (Ix c)) (h0 : I [] w)
    (Ax : α → Act → World → Prop) (hAx : ∀ x a', AbidesIn lo (w.heap.size + 2 + K) (fun (_ : Unit) W => Ax x a' W))
    (hassign : ∀ (l : Nat) (pre : List α) (x : α) (W : World) (Kt : Act → World → Prop), I pre W → w.heap.size + 2 + K ≤ W.heap.size →
      (∀ a' W', KeepsIn (min lo w.heap.size) (w.heap.size + 2 + K) W W' → I pre W' → Ax x a' W' → Kt a' W') →
      assign.wpIn (F.inRound l) (n - 1 - 1) P (Exit.then Kt (fun _ _ _ => False)) { tmps := (ps.zip (encs x)).foldl (fun t (p, v) => t.setIfInBounds p v) a.tmps, defers := [] } W)
    (hbody : ∀ (l : Nat) (pre : List α) (x : α) (a' : Act) (W : World), I pre W → Ax x a' W → pre.length < N → Sp (pre ++ [x]) → w.heap.size + 2 + K ≤ W.heap.size → body.wpIn (F.inRound l) (n - 1 - 1) P (ownPostR (min lo w.heap.size) (w.heap.size + 2 + K) I Ix (pre ++ [x]) W) a' W)
    (hdone : ∀ (xs : List α) (W : World), S xs → I xs W → W.heap[w.heap.size]? = some (.deferred (some [])) → Q .normal { a with defers := { target := .collected w.heap.size, args := #[] } :: a.defers } W)
    (hstop : ∀ (c : Code) (pre : List α) (W : World), Sp pre → Ix c pre W → W.heap[w.heap.size]? = some (.deferred (some [])) → c.wpIn F n P Q { a with defers := { target := .collected w.heap.size, args := #[] } :: a.defers } W) :
    (Code.rangeFunc g ps assign body).wpIn F n P Q a w := by
  refine wpIn_rangeFunc ?_
  intro fn hfn
  rw [hro]
  obtain ⟨rec, hrec⟩ : ∃ rec : LoopState → Option Code → Loop, rec = fun st pe => { state := st, pending := pe, fn, tmps := a.tmps, params := ps, assign, body, defers := w.heap.size } := ⟨_, rfl⟩
  obtain ⟨W1, hW1⟩ : ∃ W1, (w.alloc (.deferred (some []))).alloc (.loop (rec .ready none)) = W1 := ⟨_, rfl⟩
  have hL1 : W1.heap[w.heap.size + 1]? = some (.loop (rec .ready none)) := by
    rw [← hW1]; have := World.alloc_heap_new (w.alloc (.deferred (some []))) (.loop (rec .ready none)); rwa [World.size_alloc] at this
  have hK1 : W1.heap[w.heap.size]? = some (.deferred (some [])) := by
    rw [← hW1]; exact (Below.heap_alloc _ _ _ (by simp)).trans (World.alloc_heap_new w _)
  have hI1 : I [] W1 := by rw [← hW1]; exact hI.alloc _ (hI.alloc _ h0)
  have hs1 : W1.heap.size = w.heap.size + 2 := by rw [← hW1]; simp
  have hb1 : Below w0.heap.size w0 W1 := by
    rw [← hW1]; exact hb0.trans ((((Below.refl _ w).alloc (Nat.le_refl _) _).alloc (by simp) _).mono hb0.size)
  have hw0 : w0.heap.size ≤ w.heap.size := hb0.size
  refine ⟨w.heap.size + 1, [{ target := .collected w.heap.size, args := #[] }], W1, { target := .fn (.func gf) lb, args := #[.func (.yield (w.heap.size + 1)) #[] #[]] }, W1, gf,
    #[.func (.yield (w.heap.size + 1)) #[] #[]] ++ lb, W1, ?_, ?_, ?_, ?_, fun _ => h1, ?_⟩
  · rw [← hW1, hrec]; exact run_enterLoop_outer _ _ _ _ _
  · simp only [resolve, hg]
    simp [go_sem]
  · intro f' hf'; simp [Target.leads] at hf'; subst hf'; exact hFg
  · simp [invoke, go_sem, eg]
  · -- the iterator's contract, at the caller's invariant with the two facts of book-keeping beside it
    have hkeep : ∀ {A B : World} {row : Option Nat} {k : Nat}, A.grownBy B row → (∀ r, row = some r → ownOf lo w0.heap.size W1.heap.size K r) → w.heap.size ≤ k → k < w.heap.size + 2 → k < A.heap.size → B.heap[k]? = A.heap[k]? :=
      fun hg' hr hk0 hk hkA => hg'.block _ hkA (fun e => by have := hr _ e.symm; unfold ownOf at this; omega)
    have hran : ∀ {row : Option Nat}, (∀ r, row = some r → ownOf lo w0.heap.size W1.heap.size K r) → (∀ r, row = some r → lo ≤ r ∧ r < w.heap.size + 2 + K) :=
      fun hr r e => by have := hr r e; unfold ownOf at this; omega
    refine (hseq (w.heap.size + 1)
      (fun pre W => I pre W ∧ W.heap[w.heap.size + 1]? = some (.loop (rec .ready none)) ∧ W.heap[w.heap.size]? = some (.deferred (some [])))
      (fun pre W => ∃ c, Ix c pre W ∧ W.heap[w.heap.size + 1]? = some (.loop (rec .done (some c))) ∧ W.heap[w.heap.size]? = some (.deferred (some [])))
      W1 hb1
      (fun s A B row hs hg' hr => ⟨hI s A B row hs.1 hg' (hran hr), (hkeep hg' hr (by omega) (by omega) (Array.getElem?_eq_some_iff.1 hs.2.1).1).trans hs.2.1, (hkeep hg' hr (by omega) (by omega) (Array.getElem?_eq_some_iff.1 hs.2.2).1).trans hs.2.2⟩)
      (fun s A B row hs hg' hr => by
        obtain ⟨c, hc, hl, hk⟩ := hs
        exact ⟨c, hIx c s A B row hc hg' (hran hr), (hkeep hg' hr (by omega) (by omega) (Array.getElem?_eq_some_iff.1 hl).1).trans hl, (hkeep hg' hr (by omega) (by omega) (Array.getElem?_eq_some_iff.1 hk).1).trans hk⟩)
      ?_ ⟨hI1, hL1, hK1⟩).mono ?_
    · -- one round
      rintro pre x W ⟨hi, hl, hk⟩ hlen hsp hWs
      have hlt : w.heap.size + 1 < W.heap.size := (Array.getElem?_eq_some_iff.1 hl).1
      have hy := run_yield (P := P) (args := encs x) hl (by rw [hrec]; exact hps x)
      rw [hrec] at hy
      refine ⟨fn, _, assign, body, hy, roundIn_of_wpIn hfn (hassign _ pre x W _ hi (by omega) fun a' Wa hka hia hax => ?_)⟩
      have hla : Wa.heap[w.heap.size + 1]? = some (.loop (rec .ready none)) := (hka.same (w.heap.size + 1) (by omega) (by omega) hlt).trans hl
      have hka0 : Wa.heap[w.heap.size]? = some (.deferred (some [])) := (hka.same w.heap.size (by omega) (by omega) (by omega)).trans hk
      have hWa := hka.size
      refine ⟨_, run_beginRound hla (by rw [hrec]), ?_⟩
      have hl2 : (Wa.putObj (w.heap.size + 1) (.loop { rec .ready none with state := .busy })).heap[w.heap.size + 1]? = some (.loop { rec .ready none with state := .busy }) := World.putObj_heap_same (by omega)
      have hk2 : (Wa.putObj (w.heap.size + 1) (.loop { rec .ready none with state := .busy })).heap[w.heap.size]? = some (.deferred (some [])) := (World.putObj_heap_other (by omega)).trans hka0
      refine wpIn_mono (hbody _ pre x _ _ (hI.putObj _ hia (by omega) (by omega)) ((hAx x a').putObj (s := ()) _ hax (by omega) (by omega)) hlen hsp (by simp; omega)) ?_
      have fin : ∀ (jump : Option Code) (W3 : World), KeepsIn (min lo w.heap.size) (w.heap.size + 2 + K) (Wa.putObj (w.heap.size + 1) (.loop { rec .ready none with state := .busy })) W3 →
          (Instr.endRound (w.heap.size + 1) jump).run P W3 = .ok (.bool jump.isNone) (W3.putObj (w.heap.size + 1) (.loop (rec (if jump.isNone then .ready else .done) jump))) ∧
          W3.heap[w.heap.size + 1]? = some (.loop { rec .ready none with state := .busy }) ∧
          (W3.putObj (w.heap.size + 1) (.loop (rec (if jump.isNone then .ready else .done) jump))).heap[w.heap.size + 1]? = some (.loop (rec (if jump.isNone then .ready else .done) jump)) ∧
          (W3.putObj (w.heap.size + 1) (.loop (rec (if jump.isNone then .ready else .done) jump))).heap[w.heap.size]? = some (.deferred (some [])) := fun jump W3 hk3 => by
        have hl3 := (hk3.same (w.heap.size + 1) (by omega) (by omega) (by simp; omega)).trans hl2
        have := run_endRound (P := P) jump hl3
        rw [hrec] at this ⊢
        exact ⟨this, by rw [hrec] at hl3; exact hl3, World.putObj_heap_same (Array.getElem?_eq_some_iff.1 hl3).1, (World.putObj_heap_other (by omega)).trans ((hk3.same w.heap.size (by omega) (by omega) (by simp; omega)).trans hk2)⟩
      have part : ∀ (o : Obj) (W3 : World) (p q : Nat), KeepsIn (min lo w.heap.size) (w.heap.size + 2 + K) (Wa.putObj (w.heap.size + 1) (.loop { rec .ready none with state := .busy })) W3 →
          min lo w.heap.size ≤ p → q ≤ w.heap.size + 2 + K → (q ≤ w.heap.size + 1 ∨ w.heap.size + 1 < p) → KeepsIn p q W (W3.putObj (w.heap.size + 1) o) := fun o W3 p q hk3 hp hq hne =>
        ⟨by have := hk3.size; simp at this ⊢; omega, fun k h1 h2 h3 => (World.putObj_heap_other (by omega)).trans ((hk3.same k (by omega) (by omega) (by simp; omega)).trans ((World.putObj_heap_other (by omega)).trans (hka.same k (by omega) (by omega) h3)))⟩
      rintro e a3 W3 hp
      cases e with
      | normal =>
        obtain ⟨hk3, hi3⟩ := hp
        obtain ⟨hr, hl3, hl4, hk4⟩ := fin none W3 hk3
        exact ⟨_, _, hr, .inl ⟨rfl, ⟨hI.putObj _ hi3 (by omega) (by omega), hl4, hk4⟩, part _ W3 _ _ hk3 (by omega) (by omega) (by omega), part _ W3 _ _ hk3 (by omega) (by omega) (by omega)⟩⟩
      | ret =>
        obtain ⟨hk3, hi3⟩ := hp
        obtain ⟨hr, hl3, hl4, hk4⟩ := fin (some .ret) W3 hk3
        exact ⟨_, _, hr, .inr ⟨rfl, .ret, (hIx _).putObj _ hi3 (by omega) (by omega), hl4, hk4⟩⟩
      | exit id =>
        obtain ⟨hk3, hi3⟩ := hp
        obtain ⟨hr, hl3, hl4, hk4⟩ := fin (some (.exit id)) W3 hk3
        exact ⟨_, _, hr, .inr ⟨rfl, .exit id, (hIx _).putObj _ hi3 (by omega) (by omega), hl4, hk4⟩⟩
      | goto t =>
        obtain ⟨hk3, hi3⟩ := hp
        obtain ⟨hr, hl3, hl4, hk4⟩ := fin (some (.goto t)) W3 hk3
        exact ⟨_, _, hr, .inr ⟨rfl, .goto t, (hIx _).putObj _ hi3 (by omega) (by omega), hl4, hk4⟩⟩
      | panic ch => exact hp.elim
      | outgrown => exact hp.elim
    · -- behind the iterator
      rintro e W2 ⟨⟨v, rfl⟩, (⟨xs, hS, hi, hl, hk⟩ | ⟨pre, hSp, c, hi, hl, hk⟩)⟩
      · exact ⟨none, _, by have := run_endLoop (P := P) hl (by rw [hrec]; simp); rw [hrec] at this; exact this, hdone xs _ hS (hI.putObj _ hi (by omega) (by omega)) ((World.putObj_heap_other (by omega)).trans hk)⟩
      · exact ⟨some c, _, by have := run_endLoop (P := P) hl (by rw [hrec]; simp); rw [hrec] at this; exact this, hstop c pre _ hSp ((hIx c).putObj _ hi (by omega) (by omega)) ((World.putObj_heap_other (by omega)).trans hk)⟩

end Go.Proofs.YtfnobkcnopmfnaaDoor
