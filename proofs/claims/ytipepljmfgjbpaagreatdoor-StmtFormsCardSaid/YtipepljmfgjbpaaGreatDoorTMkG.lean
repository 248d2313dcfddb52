/-
  A row that grows beside the maker of statements.
  The maker of statements: args: contract.
  The maker of statements: block: contract, the statements' given. Written by gen6_mkb.py.
  The maker of statements: stmt: its state. Written by gen6_mks.py.
-/
import Derived.Test.YtipepljmfgjbpaaGreatDoorTMkE
import Derived.Test.YtipepljmfgjbpaaGreatDoorSGrow
import Derived.Test.YtipepljmfgjbpaaGreatDoorTRd6
import Derived.Test.YtipepljmfgjbpaaGreatDoorERow
import Derived.Test.YtipepljmfgjbpaaGreatDoorTRead
namespace Go.Proofs.YtipepljmfgjbpaaGreatDoor.E6
open Go Go.RowKit Go.Proofs.YtipepljmfgjbpaaGreatDoor Go.Proofs.YtipepljmfgjbpaaGreatDoor.E5

section
variable {α β : Type} {K : S3.RowKind α β}
/-- New blocks that are neither the maker's nor the row's own. -/
abbrev Kp (p n : Nat) (v : Value) (wr : World) (b : Nat) : Prop := PtM p n wr b ∧ v.ownBlock ≠ some b
def GrM (K : S3.RowKind α β) (p n : Nat) (l : List α) (v : Value) (wr : World) : Prop :=
  ∃ V : Nat → β, wr.ownsRow n K.T K.sz v l.length (K.rows l V).flatten ∧ (∀ (j : Nat) a, l[j]? = some a → K.part wr (Kp p n v wr) a (V j)) ∧ n ≤ wr.heap.size ∧ ∀ g, v.ownBlock = some g → PtM p n wr g
theorem GrM.start (K : S3.RowKind α β) {p n : Nat} {wr : World} (h : n ≤ wr.heap.size) (V : Nat → β) : GrM K p n [] (.slice none 0 0) wr :=
  ⟨V, by simpa [S3.RowKind.rows] using World.ownsRow_nil wr n K.T K.sz, fun j a h => by simp at h, h, fun g hg => by simp [Value.ownBlock] at hg⟩
theorem GrM.step {p n : Nat} {l : List α} {v : Value} {wr w' : World} (h : GrM K p n l v wr) (hF : FrM p wr w') : GrM K p n l v w' := by
  obtain ⟨V, h1, h2, h3, h4⟩ := h
  refine ⟨V, ⟨h1.1, ?_⟩, fun j a hj => K.keep (h2 j a hj) (fun b hb => ⟨hb.1.mv hF, hb.2⟩) fun b i hb => hb.1.cell hF, Nat.le_trans h3 hF.size, fun g hg => (h4 g hg).mv hF⟩
  rcases h1.2 with h | ⟨g, cap, cur, hv, g1, g2, g3⟩
  · exact .inl h
  · exact .inr ⟨g, cap, cur, hv, g1, ((h4 g (by rw [hv]; rfl)).heap hF).trans g2, g3⟩
/-- A part that is new behind the row. -/
theorem GrM.part {p n n' : Nat} {l : List α} {v : Value} {wr w1 : World} (h : GrM K p n l v wr) (hn : wr.heap.size ≤ n') {a : α} {x : β} (hp : K.part w1 (PtM p n' w1) a x) : K.part w1 (Kp p n v w1) a x := by
  obtain ⟨V, h1, _, h3, _⟩ := h
  refine K.keep hp (fun b hb => ⟨hb.mono (by omega), fun e => ?_⟩) fun _ _ _ => rfl
  have := (h1.lt b e).2
  have := hb.1
  omega
/-- What else stays when a row that is not the maker's grows. -/
theorem FrM.grow {p M : Nat} {all cs : List Nat} {left : Int} {out : TL} {wr w8 : World} {v : Value} {n : Nat} (hI : MkI wr p M all cs left out) (hM : M ≤ n) (hv : ∀ g, v.ownBlock = some g → PtM p n wr g) (hg : wr.grownBy w8 v.ownBlock) : MkI w8 p M all cs left out := by
  obtain ⟨⟨code, a, vo, h1, h2, ⟨A, c, k1, k2, k3, k4⟩, h4, h5⟩, hM'⟩ := hI
  have hp := mk_lt h4
  have hne : ∀ k, k < wr.heap.size → (∀ g, PtM p n wr g → g ≠ k) → w8.heap[k]? = wr.heap[k]? := fun k hk hd => hg.block k hk fun e => hd k (hv k e.symm) rfl
  have hpr := hne p hp fun g hx => hx.2.2.1
  refine ⟨⟨code, a, vo, h1, h2, ⟨A, c, k1, k2, k3, fun j b hj => ?_⟩, hpr.trans h4, gr_side h5 hg.size fun g hgo => hne g (h5.le hgo).2 fun q hq e => hq.2.2.2 (by subst e; exact (outB_is h4).2 hgo)⟩, hM'⟩
  obtain ⟨g, o, e1, e2, e3⟩ := k4 j b hj
  exact ⟨g, o, e1, e2, (World.cell?_of_block (w := wr) (hne g (by omega) fun q hq => by have := hq.1; omega)).trans e3⟩
theorem FrM.ofGrow {p M : Nat} {all cs : List Nat} {left : Int} {out : TL} {wr w8 W : World} {v : Value} (hI : MkI wr p M all cs left out) (hv : ∀ g, v.ownBlock = some g → PtM p W.heap.size wr g) (hF : FrM p W wr) (hg : wr.grownBy w8 v.ownBlock) : FrM p W w8 := by
  obtain ⟨⟨code, a, vo, h1, h2, _, h4, h5⟩, _⟩ := hI
  have hp := mk_lt h4
  have hpr : w8.heap[p]? = wr.heap[p]? := hg.block p hp fun e => (hv p e.symm).2.2.1 rfl
  refine ⟨hg.os.trans hF.os, hg.tape.trans hF.tape, hg.output.trans hF.output, Nat.le_trans hF.size hg.size, fun k a1 a2 a3 => (hg.block k (Nat.lt_of_lt_of_le a1 hF.size) fun e => by have := (hv k e.symm).1; omega).trans (hF.keep k a1 a2 a3), fun k ⟨vo', e1, e2⟩ => hF.out k ⟨vo', (World.cell?_of_block (w := wr) (a := ⟨p, 3, none⟩) hpr).symm.trans e1, e2⟩⟩
/-- An element is put behind. -/
theorem GrM.own {p M n : Nat} {all cs : List Nat} {left : Int} {out : TL} {l : List α} {v : Value} {wr : World} (hI : MkI wr p M all cs left out) (h : GrM K p n l v wr) : ∃ xs, wr.ownsRow n K.T K.sz v l.length xs ∧
    (∀ (a : α) (x : β) (o : Obj) g cap w8, K.part wr (Kp p n v wr) a x →
      w8.ownsRow n K.T K.sz (.slice (some ⟨g, 0, none⟩) (l.length + 1) cap) (l.length + 1) (xs ++ K.row a x) → (wr.alloc o).grownBy w8 v.ownBlock → (v.ownBlock = some g ∨ g = (wr.alloc o).heap.size) →
      GrM K p n (l ++ [a]) (.slice (some ⟨g, 0, none⟩) (l.length + 1) cap) w8) := by
  obtain ⟨V, h1, h2, h3, h4⟩ := h
  refine ⟨_, h1, fun a x o g cap w8 hN h8 hg hat => ?_⟩
  have hsz8 : wr.heap.size + 1 ≤ w8.heap.size := by have := hg.size; simpa using this
  have hp := hI.p_lt
  have hout := hI.out_gt
  have hpr : w8.heap[p]? = wr.heap[p]? := (hg.block p (by simp; omega) fun e => (h4 p e.symm).2.2.1 rfl).trans ((S3.bal wr o).block p hp)
  have ho8 : ∀ k, outB w8 p k → outB wr p k := fun k ⟨vo', e1, e2⟩ => ⟨vo', (World.cell?_of_block (w := wr) (a := ⟨p, 3, none⟩) hpr).symm.trans e1, e2⟩
  have pt8 : ∀ b, PtM p n wr b → PtM p n w8 b := fun b hb => ⟨hb.1, by have := hb.2.1; omega, hb.2.2.1, fun e => hb.2.2.2 (ho8 b e)⟩
  have kk : ∀ b, Kp p n v wr b → Kp p n (.slice (some ⟨g, 0, none⟩) (l.length + 1) cap) w8 b := by
    rintro b ⟨hb1, hb3⟩
    refine ⟨pt8 b hb1, fun he => ?_⟩
    simp [Value.ownBlock] at he
    rcases hat with hat | hat
    · exact hb3 (by rw [hat, he])
    · have := hb1.2.1; simp at hat; omega
  have cc : ∀ b q, Kp p n v wr b → w8.cell? ⟨b, q, none⟩ = wr.cell? ⟨b, q, none⟩ := fun b q hb =>
    (hg.cell_far ⟨b, q, none⟩ (by simp; have := hb.1.2.1; omega) (fun e => hb.2 e.symm)).trans ((S3.bal wr o).cell (p := ⟨b, q, none⟩) hb.1.2.1)
  refine ⟨fun j => if j = l.length then x else V j, ?_, fun j e hj => ?_, by omega, fun q hq => ?_⟩
  · rw [S3.RowKind.rows_snoc, List.length_append]
    simpa using h8
  · by_cases hji : j < l.length
    · have hj' : l[j]? = some e := by
        rw [List.getElem?_append_left (by omega)] at hj
        exact hj
      simp only [show j ≠ l.length by omega, if_false]
      exact K.keep (h2 j e hj') kk cc
    · have hji' : j = l.length := by
        have := (List.getElem?_eq_some_iff.1 hj).1
        simp at this
        omega
      subst hji'
      rw [List.getElem?_append_right (by omega), Nat.sub_self] at hj
      simp at hj
      subst hj
      simp only [if_true]
      exact K.keep hN kk cc
  · simp [Value.ownBlock] at hq
    subst hq
    rcases hat with hat | hat
    · exact pt8 _ (h4 _ hat)
    · have hg8 := (h8.lt g rfl).2
      have hgs : g = wr.heap.size + 1 := by simpa using hat
      refine ⟨by omega, hg8, by omega, fun e => ?_⟩
      have := (hout g (ho8 g e)).2
      omega
theorem GrM.done {p n : Nat} {l : List α} {v : Value} {wr : World} (h : GrM K p n l v wr) : (l = [] ∧ ∃ A c, v = .slice A 0 c) ∨
    ∃ (g cap : Nat) (V : Nat → β), v = .slice (some ⟨g, 0, none⟩) l.length cap ∧ PtM p n wr g ∧ S3.RowAt wr g K.T K.sz cap (K.rows l V) ∧ ∀ (j : Nat) a, l[j]? = some a → K.part wr (PtM p n wr) a (V j) := by
  obtain ⟨V, h1, h2, h3, h4⟩ := h
  rcases Nat.eq_zero_or_pos l.length with h0 | h0
  · have := List.eq_nil_of_length_eq_zero h0
    subst this
    rcases h1.2 with ⟨rfl, _⟩ | ⟨g, cap, cur, rfl, _⟩
    · exact .inl ⟨rfl, _, _, rfl⟩
    · exact .inl ⟨rfl, _, _, rfl⟩
  · have h1' : wr.ownsRow n K.T K.sz v (K.rows l V).length (K.rows l V).flatten := by rw [S3.RowKind.rows_len]; exact h1
    obtain ⟨g, cap, rfl, hg, hr⟩ := S3.RowAt.of_own h1' (S3.RowKind.rows_sz _ _) (by rw [S3.RowKind.rows_len]; exact h0)
    rw [S3.RowKind.rows_len] at h2 h4 ⊢
    exact .inr ⟨g, cap, V, rfl, h4 g rfl, hr, fun j a hj => K.keep (h2 j a hj) (fun b hb => hb.1) fun _ _ _ => rfl⟩
end
theorem GrM.er {p n : Nat} {l : List Ex} {v : Value} {wr : World} (h : GrM S3.kE p n l v wr) (hl : l.length ≤ 9223372036854775807) : S3.ER wr (PtM p n wr) l v := by
  rcases h.done with ⟨rfl, A, c, rfl⟩ | ⟨g, cap, V, rfl, hg, hr, hp⟩
  · exact S3.ER.nil _ _
  · exact S3.ER.of_row (V := V) hr hg hl (fun i e hi => (hp i e hi).1) (fun i e hi => (hp i e hi).2)
theorem GrM.sr {p n : Nat} {l : List St} {v : Value} {wr : World} (h : GrM kS6 p n l v wr) (hl : l.length ≤ 9223372036854775807) : S3.SR wr (PtM p n wr) l v := by
  rcases h.done with ⟨rfl, A, c, rfl⟩ | ⟨g, cap, V, rfl, hg, hr, hp⟩
  · exact S3.SR.nil _ _
  · exact S3.SR.of_row (V := V) hr hg hl (fun i e hi => (hp i e hi).ok) (fun i e hi => (hp i e hi).a) (fun i e hi => (hp i e hi).b) (fun i e hi => (hp i e hi).e)
end Go.Proofs.YtipepljmfgjbpaaGreatDoor.E6

namespace Go.Proofs.YtipepljmfgjbpaaGreatDoor.E6
open Go Go.RowKit Go.Proofs.YtipepljmfgjbpaaGreatDoor Go.Proofs.YtipepljmfgjbpaaGreatDoor.E5

theorem exM_app {p M n n' : Nat} {all cs : List Nat} {left : Int} {out : TL} {acc : List Ex} {x : Value} {W0 W : World} {e : Ex} {A : Option Addr} {k c : Nat} (hI : MkI W p M all cs left out) (hn : n = W0.heap.size) (hM : M ≤ n) (hF : FrM p W0 W) (h : GrM S3.kE p n acc x W) (ho : S3.OkE e) (hE : S3.ER W (PtM p n' W) e.args (.slice A k c)) (hv : ∀ g, x.ownBlock = some g → g < n') (hnn : n ≤ n') (hl : acc.length ≤ 1000000) (ty : TypeId) :
    ∃ g cap w8, (Builtin.append_ #[24, 24] ty #[x, .slice (some ⟨W.heap.size, 0, none⟩) 1 1]).run Tryz.prog (W.alloc (S3.eO e (.slice A k c))) = .ok (.slice (some ⟨g, 0, none⟩) (acc.length + 1) cap) w8 ∧
      GrM S3.kE p n (acc ++ [e]) (.slice (some ⟨g, 0, none⟩) (acc.length + 1) cap) w8 ∧ MkI w8 p M all cs left out ∧ FrM p W0 w8 := by
  obtain ⟨i0, hi0, hz0, hz1, hz2⟩ := info_parts S3.infoE
  subst hn
  have hp := hI.p_lt
  obtain ⟨xs, hown, hst⟩ := h.own hI
  have hbase : W0.heap.size ≤ W.heap.size := hF.size
  have hvp : ∀ g, x.ownBlock = some g → PtM p W0.heap.size W g := by obtain ⟨_, _, _, _, h4⟩ := h; exact h4
  obtain ⟨v', w', hrun, h2, h3, _, h5⟩ := run_append_own_at (P := Tryz.prog) (W.alloc (S3.eO e (.slice A k c))) W0.heap.size 24 ty 67 i0 _ 5 64 Tryz.underlying24 hi0 hz0 hz1 hz2 rfl (by decide) x acc.length xs (hown.alloc _) ⟨W.heap.size, 0, none⟩ 1 1 (S3.eC e (.slice A k c)) rfl
    (fun j u hu => by rw [add_plain, Nat.zero_add]; exact S3.newCell W _ 67 j u (by rw [List.getElem?_toArray]; exact hu)) (by intro u hu; simp [S3.eC] at hu; rcases hu with rfl | rfl | rfl | rfl | rfl <;> rfl) (by unfold maxLen; omega) (by omega) (by rw [S3.sz1]; omega)
  obtain ⟨g, cap, rfl⟩ : ∃ g cap, v' = .slice (some ⟨g, 0, none⟩) (acc.length + 1) cap := by
    rcases h2.2 with ⟨_, h9⟩ | ⟨g, cap, cur, e1, _⟩
    · omega
    · exact ⟨g, cap, e1⟩
  have h6 : x.ownBlock = some g ∨ g = (W.alloc (S3.eO e (.slice A k c))).heap.size := by
    rcases h5 with h5 | h5
    · exact .inl h5.symm
    · simp only [Value.ownBlock, Option.some.injEq] at h5; exact .inr h5
  have hpart : S3.kE.part W (Kp p W0.heap.size x W) e (.slice A k c) := ⟨ho, hE.keep (fun b hb => ⟨hb.mono hnn, fun e => by have := hv b e; have := hb.1; omega⟩) fun _ _ _ => rfl⟩
  have hal := FrM.al W (S3.eO e (.slice A k c)) hp
  exact ⟨g, cap, w', hrun, hst e (.slice A k c) _ g cap w' hpart h2 h3 h6, FrM.grow (hI.al _) hM (fun g hg => (hvp g hg).mv hal) h3, FrM.ofGrow (hI.al _) (fun g hg => (hvp g hg).mv hal) (hF.trans hal) h3⟩
/-- In the midst of args. -/
structure ArI (W : World) (p M : Nat) (all : List Nat) (left : Int) (out : TL) (tot : List Tr) (cs9 : List Nat) (m : Nat) (acc : List Tr) (x : Value) (wr : World) : Prop where
  ex : ∃ cs E, MkI wr p M all cs left (out ++ E) ∧ E ++ restT (mkAs m cs).1 = argsT tot ∧ acc ++ (mkAs m cs).1 = tot ∧ (mkAs m cs).2 = cs9 ∧ Byt cs
  gr : GrM S3.kE p W.heap.size (acc.map Tr.ex) x wr
  fr : FrM p W wr
set_option maxRecDepth 100000 in
set_option maxHeartbeats 8000000 in
theorem argsM {W : World} {p M : Nat} {all cs : List Nat} {left : Int} {out : TL} (h : MkI W p M all cs left out) (hlen : out.length + (argsT (mkAs (hdB cs % 4) (tlB cs)).1).length ≤ 1000000) :
    Calls Tryz.prog 28 #[mpt p] W (fun E W' => ∃ A c, E = .returned (.slice A (mkAs (hdB cs % 4) (tlB cs)).1.length c) ∧ S3.ER W' (PtM p W.heap.size W') ((mkAs (hdB cs % 4) (tlB cs)).1.map Tr.ex) (.slice A (mkAs (hdB cs % 4) (tlB cs)).1.length c) ∧ MkI W' p M all (mkAs (hdB cs % 4) (tlB cs)).2 left (out ++ argsT (mkAs (hdB cs % 4) (tlB cs)).1) ∧ FrM p W W') := by
  have hp := h.p_lt
  have hMW : M ≤ W.heap.size := by have := h.lt; omega
  have hby := h.byt
  have h4 := Lib.hid (mkAs_ok (hdB cs % 4) _ hby.tl)
  have hS : StrL (W.alloc (.cells #[.string ⟨#[40]⟩] 9)) (W.alloc (.cells #[.string ⟨#[40]⟩] 9)).heap.size (.slice (some ⟨W.heap.size, 0, none⟩) 1 1) [[40]] := strL_new W [[40]] 9 rfl
  have hpos := restT_pos (mkAs (hdB cs % 4) (tlB cs)).1
  have hal : (argsT (mkAs (hdB cs % 4) (tlB cs)).1).length = (restT (mkAs (hdB cs % 4) (tlB cs)).1).length + 1 := rfl
  have D := addM (h.al (.cells #[.string ⟨#[40]⟩] 9)) hS (by simp) (by simp; omega)
  rw [show List.map wtk [[40]] = [tOpen] by decide +kernel] at D
  have D := Lib.hid D
  have HF0 := Lib.hid (FrM.al W (.cells #[.string ⟨#[40]⟩] 9) hp)
  have hmod : (hdB cs : Int) % 4 = ((hdB cs % 4 : Nat) : Int) := by omega
  have hm3 : hdB cs % 4 ≤ 3 := by omega
  clear hS h
  generalize hN : hdB cs % 4 = N at *
  generalize hmk : mkAs N (tlB cs) = q at *
  obtain ⟨tot, cs9⟩ := q
  simp only at *
  go_enter Tryz.func28, Tryz.ntmps28
  try simp only [List.append_eq, List.cons_append, List.nil_append]
  go_wp2_with fail
  refine D.out.mono ?_
  rintro E w1 ⟨rfl, hI, hF⟩
  have HC := Lib.hid (byteM hI)
  have HF1 := Lib.hid (HF0.out.trans hF)
  clear hI hF D HF0
  go_wp2_with fail
  refine HC.out.mono ?_
  rintro E w2 ⟨rfl, hI, hF⟩
  have H2 := Lib.hid (show ArI W p M all left out tot cs9 N [] (.slice none 0 0) w2 from ⟨⟨tlB cs, [tOpen], hI, by rw [hmk]; rfl, by rw [hmk]; rfl, by rw [hmk], hby.tl⟩, GrM.start S3.kE (HF1.out.trans hF).size (fun _ => .bool false), HF1.out.trans hF⟩)
  clear hI hF HC HF1
  go_wp2_with fail
  clear hmod
  go_loopw [3, 4] (fun x nx wr => ∃ (m : Nat) (acc : List Tr), nx = .int .i64 (m : Int) ∧ Hid (m ≤ 3) ∧ Hid (ArI W p M all left out tot cs9 m acc x wr) ∧ ∃ Ax cx, Hid (x = .slice Ax acc.length cx)) (fun _ nx _ => (intOf nx).toNat)
  case atStart => exact ⟨N, [], by go_num, Lib.hid hm3, H2, none, 0, Lib.hid rfl⟩
  case round =>
    clear H2
    obtain ⟨m, acc, rfl, hm, HA, Ax, cx, HX⟩ := hrel
    obtain ⟨⟨cs', E9, hI, he, hacc, hcs, hby'⟩, hG, hFr⟩ := HA.out
    have hown : ∀ g, u3.ownBlock = some g → g < wr.heap.size := by obtain ⟨_, h1, _⟩ := hG; exact fun g e => (h1.lt g e).2
    have hle := congrArg List.length he
    rw [List.length_append] at hle
    have hla := congrArg List.length hacc
    rw [List.length_append] at hla
    have hl3 := h4.out.2.1
    have HL3 := Lib.hid hl3
    have hpr := hI.p_lt
    rcases m with _ | m
    · rw [mkAs] at he hacc hcs
      simp only [List.append_nil] at hacc
      subst hacc
      subst hcs
      have hS : StrL (wr.alloc (.cells #[.string ⟨#[41]⟩] 9)) (wr.alloc (.cells #[.string ⟨#[41]⟩] 9)).heap.size (.slice (some ⟨wr.heap.size, 0, none⟩) 1 1) [[41]] := strL_new wr [[41]] 9 rfl
      have D := addM (hI.al (.cells #[.string ⟨#[41]⟩] 9)) hS (by simp) (by simp [mkAs, restT] at hle ⊢; omega)
      rw [show List.map wtk [[41]] = [tShut] by decide +kernel, List.append_assoc, show E9 ++ [tShut] = argsT acc from he] at D
      have D := Lib.hid D
      have hal1 := FrM.al wr (.cells #[.string ⟨#[41]⟩] 9) hpr
      have HG1 := Lib.hid (hG.step hal1)
      have HF1 := Lib.hid (hFr.trans hal1)
      obtain rfl := HX.out
      clear hS hI hG hFr HA hal1 he hle hown hla hl3
      go_wp2_with fail
      refine D.out.mono ?_
      rintro E w3 ⟨rfl, hI, hF⟩
      have HI3 := Lib.hid hI
      have HE3 := Lib.hid ((HG1.out.step hF).er (by have := HL3.out; simp; omega))
      have HF3 := Lib.hid (HF1.out.trans hF)
      clear hI hF D HG1 HF1
      go_wp2_with fail
      go_ret
      exact ⟨Ax, cx, rfl, HE3.out, HI3.out, HF3.out⟩
    · have X := exprM_all 1 (by omega) false wr p M all cs' left (out ++ E9) hI (by
        have : (restT (mkAs (m + 1) cs').1).length ≥ (mkT 1 cs').1.tk.length := by
          rw [mkAs]
          cases (mkAs m (mkT 1 cs').2).1 with
          | nil => simp [restT]
          | cons u us => rw [restT_two]; simp
        rw [tokT_false, List.length_append]
        omega)
      rw [show ((1 : Nat) : Int) + 1 = 2 from rfl, tokT_false] at X
      have hokE := tr_okE6 (mkT_ok 1 cs' hby').1
      have hby2 := (mkT_ok 1 cs' hby').2.2
      rw [mkAs] at he hacc hcs hle
      generalize hr : mkT 1 cs' = r at *
      have X := Lib.hid X
      have HG0 := Lib.hid hG
      have HF0 := Lib.hid hFr
      clear hI hG hFr HA
      go_wp2_with fail
      refine X.out.mono ?_
      rintro E w3 ⟨A, k, c, rfl, hEr, hI, hF⟩
      obtain ⟨g, cap, w8, r8, hG8, hI8, hF8⟩ := exM_app hI rfl hMW (HF0.out.trans hF) (HG0.out.step hF) hokE hEr hown HF0.out.size (by simp; omega) 24
      have R8 := Lib.hid r8
      clear hEr hI hF X HG0 HF0 r8 hown hl3
      have HI8 := Lib.hid hI8
      have HG8 := Lib.hid hG8
      have HF8 := Lib.hid hF8
      have hp8 := hI8.p_lt
      clear hI8 hG8 hF8
      rcases m with _ | m
      · rw [show ((0 : Nat) : Int) + 1 = 1 from rfl]
        rw [mkAs] at he hacc hcs
        have HN := Lib.hid (show ArI W p M all left out tot cs9 0 (acc ++ [r.1]) (.slice (some ⟨g, 0, none⟩) ((acc.map Tr.ex).length + 1) cap) w8 from ⟨⟨r.2, E9 ++ r.1.tk, by rw [← List.append_assoc]; exact HI8.out, by rw [List.append_assoc]; exact he, by rw [mkAs, List.append_nil]; exact hacc, hcs, hby2⟩, by rw [List.map_append]; exact HG8.out, HF8.out⟩)
        clear he hacc hcs hle hla HI8 HG8 HF8 HX
        go_wp2_with (at_builtin; refine Lib.wpList_append_run _ rfl _ _ _ _ rfl _ _ rfl rfl _ _ R8.out ?_)
        clear R8
        go_wp2_with fail
        rw [List.length_map] at HN
        go_roundw
        case rel =>
          first
            | exact ⟨0, _, by go_num, Lib.hid (by omega), HN, _, _, Lib.hid (by rw [List.length_append]; rfl)⟩
            | ((repeat apply Exists.intro); exact ⟨⟨0, acc ++ [r.1], by go_num, Lib.hid (by omega), HN, _, _, Lib.hid (by rw [List.length_append]; rfl)⟩, rfl⟩)
        case measure => simp [intOf]
      · have hS : StrL (w8.alloc (.cells #[.string ⟨#[44]⟩] 9)) (w8.alloc (.cells #[.string ⟨#[44]⟩] 9)).heap.size (.slice (some ⟨w8.heap.size, 0, none⟩) 1 1) [[44]] := strL_new w8 [[44]] 9 rfl
        have hr2 : mkAs (m + 1) r.2 = ((mkT 1 r.2).1 :: (mkAs m (mkT 1 r.2).2).1, (mkAs m (mkT 1 r.2).2).2) := by rw [mkAs]
        have he2 : (E9 ++ r.1.tk ++ [tComma]) ++ restT (mkAs (m + 1) r.2).1 = argsT tot := by
          rw [← he, hr2, restT_two]
          simp [List.append_assoc]
        have hle2 := congrArg List.length he2
        rw [List.length_append] at hle2
        have D := addM (HI8.out.al (.cells #[.string ⟨#[44]⟩] 9)) hS (by simp) (by simp at hle2 ⊢; omega)
        rw [show List.map wtk [[44]] = [tComma] by decide +kernel] at D
        have D := Lib.hid D
        have hal1 := FrM.al w8 (.cells #[.string ⟨#[44]⟩] 9) hp8
        have HG9 := Lib.hid (HG8.out.step hal1)
        have HF9 := Lib.hid (HF8.out.trans hal1)
        have hgt : (1 : Int) < (m : Int) + 1 + 1 := by omega
        clear hS hal1 HG8 HF8 HI8 hle2 hle he hr2 HX
        go_wp2_with (at_builtin; refine Lib.wpList_append_run _ rfl _ _ _ _ rfl _ _ rfl rfl _ _ R8.out ?_)
        clear R8
        refine D.out.mono ?_
        rintro E w9 ⟨rfl, hI, hF⟩
        have HN := Lib.hid (show ArI W p M all left out tot cs9 (m + 1) (acc ++ [r.1]) (.slice (some ⟨g, 0, none⟩) ((acc.map Tr.ex).length + 1) cap) w9 from ⟨⟨r.2, E9 ++ r.1.tk ++ [tComma], by rw [← List.append_assoc, ← List.append_assoc]; exact hI, he2, by rw [List.append_assoc]; exact hacc, hcs, hby2⟩, by rw [List.map_append]; exact HG9.out.step hF, HF9.out.trans hF⟩)
        have hm' := hm.out
        clear hI hF D HG9 HF9 he2 hacc hcs hla
        go_wp2_with fail
        rw [List.length_map] at HN
        go_roundw
        case rel => exact ⟨m + 1, _, by go_num, Lib.hid (by omega), HN, _, _, Lib.hid (by rw [List.length_append]; rfl)⟩
        case measure => simp [intOf]; omega
end Go.Proofs.YtipepljmfgjbpaaGreatDoor.E6

namespace Go.Proofs.YtipepljmfgjbpaaGreatDoor.E6
open Go Go.RowKit Go.Proofs.YtipepljmfgjbpaaGreatDoor Go.Proofs.YtipepljmfgjbpaaGreatDoor.E5

theorem stM_app {p M n n' : Nat} {all cs : List Nat} {left : Int} {out : TL} {acc : List St} {x : Value} {W0 W : World} {s : St} {Aa Ab Ae : Option Addr} {ca cb ce : Nat} (hI : MkI W p M all cs left out) (hn : n = W0.heap.size) (hM : M ≤ n) (hF : FrM p W0 W) (h : GrM kS6 p n acc x W) (hE : SIs W (PtM p n' W) s (.slice Aa s.args.length ca) (.slice Ab s.body.length cb) (.slice Ae s.els.length ce)) (hv : ∀ g, x.ownBlock = some g → g < n') (hnn : n ≤ n') (hl : acc.length ≤ 1000000) (ty : TypeId) :
    ∃ g cap w8, (Builtin.append_ #[25, 25] ty #[x, .slice (some ⟨W.heap.size, 0, none⟩) 1 1]).run Tryz.prog (W.alloc (S3.sO s (.slice Aa s.args.length ca) (.slice Ab s.body.length cb) (.slice Ae s.els.length ce))) = .ok (.slice (some ⟨g, 0, none⟩) (acc.length + 1) cap) w8 ∧
      GrM kS6 p n (acc ++ [s]) (.slice (some ⟨g, 0, none⟩) (acc.length + 1) cap) w8 ∧ MkI w8 p M all cs left out ∧ FrM p W0 w8 := by
  obtain ⟨i0, hi0, hz0, hz1, hz2⟩ := info_parts S3.infoS
  subst hn
  have hp := hI.p_lt
  obtain ⟨xs, hown, hst⟩ := h.own hI
  have hbase : W0.heap.size ≤ W.heap.size := hF.size
  have hvp : ∀ g, x.ownBlock = some g → PtM p W0.heap.size W g := by obtain ⟨_, _, _, _, h4⟩ := h; exact h4
  obtain ⟨v', w', hrun, h2, h3, _, h5⟩ := run_append_own_at (P := Tryz.prog) (W.alloc (S3.sO s (.slice Aa s.args.length ca) (.slice Ab s.body.length cb) (.slice Ae s.els.length ce))) W0.heap.size 25 ty 27 i0 _ 8 128 Tryz.underlying25 hi0 hz0 hz1 hz2 rfl (by decide) x acc.length xs (hown.alloc _) ⟨W.heap.size, 0, none⟩ 1 1 (S3.sC s (.slice Aa s.args.length ca) (.slice Ab s.body.length cb) (.slice Ae s.els.length ce)) rfl
    (fun j u hu => by rw [E5.add_plain, Nat.zero_add]; exact S3.newCell W _ 27 j u (by rw [List.getElem?_toArray]; exact hu)) (by intro u hu; simp [S3.sC] at hu; rcases hu with rfl | rfl | rfl | rfl | rfl | rfl | rfl | rfl <;> rfl) (by unfold maxLen; omega) (by omega) (by rw [S3.sz1]; omega)
  obtain ⟨g, cap, rfl⟩ : ∃ g cap, v' = .slice (some ⟨g, 0, none⟩) (acc.length + 1) cap := by
    rcases h2.2 with ⟨_, h9⟩ | ⟨g, cap, cur, e1, _⟩
    · omega
    · exact ⟨g, cap, e1⟩
  have h6 : x.ownBlock = some g ∨ g = (W.alloc (S3.sO s (.slice Aa s.args.length ca) (.slice Ab s.body.length cb) (.slice Ae s.els.length ce))).heap.size := by
    rcases h5 with h5 | h5
    · exact .inl h5.symm
    · simp only [Value.ownBlock, Option.some.injEq] at h5; exact .inr h5
  have hpart : kS6.part W (Kp p W0.heap.size x W) s (.slice Aa s.args.length ca, .slice Ab s.body.length cb, .slice Ae s.els.length ce) := SIs.keep hE (fun b hb => ⟨hb.mono hnn, fun e => by have := hv b e; have := hb.1; omega⟩) fun _ _ _ => rfl
  have hal := FrM.al W (S3.sO s (.slice Aa s.args.length ca) (.slice Ab s.body.length cb) (.slice Ae s.els.length ce)) hp
  exact ⟨g, cap, w', hrun, hst s (.slice Aa s.args.length ca, .slice Ab s.body.length cb, .slice Ae s.els.length ce) _ g cap w' hpart h2 h3 h6, FrM.grow (hI.al _) hM (fun g hg => (hvp g hg).mv hal) h3, FrM.ofGrow (hI.al _) (fun g hg => (hvp g hg).mv hal) (hF.trans hal) h3⟩
/-- What stmt gives. -/
def StP (W : World) (p M : Nat) (all : List Nat) (out : TL) (r : Mk) (E : Ending) (W' : World) : Prop := ∃ va vb ve, E = .returned (S3.sV r.s va vb ve) ∧ SIs W' (PtM p W.heap.size W') r.s va vb ve ∧ MkI W' p M all r.cs (r.left : Int) (out ++ r.tk) ∧ FrM p W W'
/-- What is given of the statements with blocks at most so deep. -/
def StC (n : Nat) : Prop := ∀ (W : World) (p M : Nat) (all cs : List Nat) (left : Nat) (out : TL), MkI W p M all cs (left : Int) out → 1 ≤ left → left ≤ 1000 → out.length + (mkS n left cs).tk.length ≤ 1000000 → Calls Tryz.prog 12 #[mpt p, .int .i64 (n : Int)] W (StP W p M all out (mkS n left cs))
/-- In the midst of block. -/
structure BlI (W : World) (p M : Nat) (all : List Nat) (f : Nat → List Nat → Mk) (out : TL) (tot : PL) (left9 : Nat) (cs9 : List Nat) (k : Nat) (acc : PL) (x : Value) (wr : World) : Prop where
  ex : ∃ cs left, MkI wr p M all cs ((left : Nat) : Int) (out ++ (tOpC :: PL.tk acc)) ∧ left ≤ 1000 ∧ acc ++ (mkBl f k left cs).ps = tot ∧ (mkBl f k left cs).left = left9 ∧ (mkBl f k left cs).cs = cs9
  gr : GrM kS6 p W.heap.size (PL.st acc) x wr
  fr : FrM p W wr
/-- What block gives. -/
def BkP (W : World) (p M : Nat) (all : List Nat) (out : TL) (r : MkB) (E : Ending) (W' : World) : Prop := ∃ A c, E = .returned (.slice A r.ps.length c) ∧ S3.SR W' (PtM p W.heap.size W') (PL.st r.ps) (.slice A r.ps.length c) ∧ MkI W' p M all r.cs (r.left : Int) (out ++ blkT r.ps) ∧ FrM p W W'
theorem mkBl_len (f : Nat → List Nat → Mk) : ∀ n left cs, (mkBl f n left cs).ps.length ≤ n := by
  intro n
  induction n with
  | zero => intro left cs; simp [mkBl]
  | succ n ih =>
    intro left cs
    rw [mkBl]
    split
    · simp
    · simp; exact ih _ _
theorem mkSim_left (k b left : Nat) (r : List Nat) : (mkSim k b left r).left = left := by
  unfold mkSim
  repeat' split
  all_goals rfl
theorem mkBl_left {f : Nat → List Nat → Mk} (hf : ∀ left cs, (f left cs).left ≤ left) : ∀ n left cs, (mkBl f n left cs).left ≤ left := by
  intro n
  induction n with
  | zero => intro left cs; exact Nat.le_refl _
  | succ n ih =>
    intro left cs
    rw [mkBl]
    split
    · exact Nat.le_refl _
    · exact Nat.le_trans (ih _ _) (hf _ _)
theorem mkBr_left {f : Nat → List Nat → Mk} (hf : ∀ left cs, (f left cs).left ≤ left) (k b left : Nat) (r : List Nat) : (mkBr f k b left r).left ≤ left := by
  have hb : ∀ left cs, (mkBlk f left cs).left ≤ left := fun left cs => mkBl_left hf _ _ _
  unfold mkBr
  split
  · split
    · exact Nat.le_trans (hb _ _) (hb _ _)
    · exact hb _ _
  · exact hb _ _
theorem mkS_left : ∀ n left cs, (mkS n left cs).left ≤ left := by
  intro n
  induction n with
  | zero => intro left cs; rw [mkS, mkSim_left]; omega
  | succ n ih =>
    intro left cs
    rw [mkS]
    split
    · rw [mkSim_left]; omega
    · exact Nat.le_trans (mkBr_left ih _ _ _ _) (by omega)
set_option maxRecDepth 100000 in
set_option maxHeartbeats 8000000 in
theorem blockM {W : World} {p M n : Nat} {all cs : List Nat} {left : Nat} {out : TL} (hSt : StC n) (h : MkI W p M all cs (left : Int) out) (hl0 : left ≤ 1000) (hlen : out.length + (blkT (mkBlk (mkS n) left cs).ps).length ≤ 1000000) :
    Calls Tryz.prog 29 #[mpt p, .int .i64 (n : Int)] W (BkP W p M all out (mkBlk (mkS n) left cs)) := by
  have hp := h.p_lt
  have hMW : M ≤ W.heap.size := by have := h.lt; omega
  have hS : StrL (W.alloc (.cells #[.string ⟨#[123]⟩] 9)) (W.alloc (.cells #[.string ⟨#[123]⟩] 9)).heap.size (.slice (some ⟨W.heap.size, 0, none⟩) 1 1) [[123]] := strL_new W [[123]] 9 rfl
  have hN3 := mkBl_len (mkS n) (hdB cs % 4) left (tlB cs)
  have hbl : (blkT (mkBlk (mkS n) left cs).ps).length = (PL.tk (mkBlk (mkS n) left cs).ps).length + 2 := by simp [blkT]
  have D := addM (h.al (.cells #[.string ⟨#[123]⟩] 9)) hS (by simp) (by simp; omega)
  rw [show List.map wtk [[123]] = [tOpC] by decide +kernel] at D
  have D := Lib.hid D
  have HF0 := Lib.hid (FrM.al W (.cells #[.string ⟨#[123]⟩] 9) hp)
  have hmod : (hdB cs : Int) % 4 = ((hdB cs % 4 : Nat) : Int) := by omega
  have hm3 : hdB cs % 4 ≤ 3 := by omega
  have HSt := Lib.hid hSt
  clear hS h hSt
  unfold mkBlk at *
  generalize hN : hdB cs % 4 = N at *
  generalize hmk : mkBl (mkS n) N left (tlB cs) = q at *
  obtain ⟨tot, left9, cs9⟩ := q
  simp only at *
  go_enter Tryz.func29, Tryz.ntmps29
  try simp only [List.append_eq, List.cons_append, List.nil_append]
  go_wp2_with fail
  refine D.out.mono ?_
  rintro E w1 ⟨rfl, hI, hF⟩
  have HC := Lib.hid (byteM hI)
  have HF1 := Lib.hid (HF0.out.trans hF)
  clear hI hF D HF0
  go_wp2_with fail
  refine HC.out.mono ?_
  rintro E w2 ⟨rfl, hI, hF⟩
  have H2 := Lib.hid (show BlI W p M all (mkS n) out tot left9 cs9 N [] (.slice none 0 0) w2 from ⟨⟨tlB cs, left, hI, hl0, by rw [hmk]; rfl, by rw [hmk], by rw [hmk]⟩, GrM.start kS6 (HF1.out.trans hF).size (fun _ => (.bool false, .bool false, .bool false)), HF1.out.trans hF⟩)
  clear hI hF HC HF1
  go_wp2_with fail
  clear hmod
  go_loopw [5, 6] (fun x nx wr => ∃ (m : Nat) (acc : PL), nx = .int .i64 (m : Int) ∧ Hid (m ≤ 3) ∧ Hid (BlI W p M all (mkS n) out tot left9 cs9 m acc x wr) ∧ ∃ Ax cx, Hid (x = .slice Ax acc.length cx)) (fun _ nx _ => (intOf nx).toNat)
  case atStart => exact ⟨N, [], by go_num, Lib.hid hm3, H2, none, 0, Lib.hid rfl⟩
  case round =>
    clear H2
    obtain ⟨m, acc, rfl, hm, HA, Ax, cx, HX⟩ := hrel
    obtain ⟨⟨cs', lf, hI, hlf, hacc, hlf9, hcs9⟩, hG, hFr⟩ := HA.out
    have hown : ∀ g, u5.ownBlock = some g → g < wr.heap.size := by obtain ⟨_, h1, _⟩ := hG; exact fun g e => (h1.lt g e).2
    have hle := congrArg (fun l : PL => (PL.tk l).length) hacc
    simp only [PL.tk, List.flatMap_append, List.length_append] at hle
    have hla := congrArg List.length hacc
    rw [List.length_append] at hla
    have hpr := hI.p_lt
    have k2 : wr.cell? ⟨p, 2, none⟩ = some (.int .i64 ((lf : Nat) : Int)) := by obtain ⟨⟨_, _, _, _, _, _, h4, _⟩, _⟩ := hI; exact (mk_row h4).2.2.1
    by_cases hm0 : m = 0
    · have q1 : ¬ (0 : Int) < (m : Int) := by omega
      have hb0 : mkBl (mkS n) m lf cs' = ⟨[], lf, cs'⟩ := by subst hm0; rfl
      rw [hb0] at hacc hlf9 hcs9
      simp only [List.append_nil] at hacc hlf9 hcs9
      subst hacc
      subst hlf9
      subst hcs9
      have hS : StrL (wr.alloc (.cells #[.string ⟨#[125]⟩] 9)) (wr.alloc (.cells #[.string ⟨#[125]⟩] 9)).heap.size (.slice (some ⟨wr.heap.size, 0, none⟩) 1 1) [[125]] := strL_new wr [[125]] 9 rfl
      have D := addM (hI.al (.cells #[.string ⟨#[125]⟩] 9)) hS (by simp) (by simp; omega)
      rw [show List.map wtk [[125]] = [tShC] by decide +kernel, List.append_assoc, show (tOpC :: PL.tk acc) ++ [tShC] = blkT acc from rfl] at D
      have D := Lib.hid D
      have hal1 := FrM.al wr (.cells #[.string ⟨#[125]⟩] 9) hpr
      have HG1 := Lib.hid (hG.step hal1)
      have HF1 := Lib.hid (hFr.trans hal1)
      have HL := Lib.hid hN3
      obtain rfl := HX.out
      clear hS hI hG hFr HA hal1 hle hown hla hb0
      go_wp2_with fail
      refine D.out.mono ?_
      rintro E w3 ⟨rfl, hI, hF⟩
      have HI3 := Lib.hid hI
      have HE3 := Lib.hid ((HG1.out.step hF).sr (by have := HL.out; simp [PL.st]; omega))
      have HF3 := Lib.hid (HF1.out.trans hF)
      clear hI hF D HG1 HF1
      go_wp2_with fail
      go_ret
      exact ⟨Ax, cx, rfl, HE3.out, HI3.out, HF3.out⟩
    have q1 : (0 : Int) < (m : Int) := by omega
    by_cases hl : lf = 0
    · have q2 : ¬ (0 : Int) < (lf : Int) := by omega
      have hb0 : mkBl (mkS n) m lf cs' = ⟨[], lf, cs'⟩ := by obtain ⟨m', rfl⟩ : ∃ m', m = m' + 1 := ⟨m - 1, by omega⟩; rw [mkBl, if_pos hl]
      rw [hb0] at hacc hlf9 hcs9
      simp only [List.append_nil] at hacc hlf9 hcs9
      subst hacc
      subst hlf9
      subst hcs9
      have hS : StrL (wr.alloc (.cells #[.string ⟨#[125]⟩] 9)) (wr.alloc (.cells #[.string ⟨#[125]⟩] 9)).heap.size (.slice (some ⟨wr.heap.size, 0, none⟩) 1 1) [[125]] := strL_new wr [[125]] 9 rfl
      have D := addM (hI.al (.cells #[.string ⟨#[125]⟩] 9)) hS (by simp) (by simp; omega)
      rw [show List.map wtk [[125]] = [tShC] by decide +kernel, List.append_assoc, show (tOpC :: PL.tk acc) ++ [tShC] = blkT acc from rfl] at D
      have D := Lib.hid D
      have hal1 := FrM.al wr (.cells #[.string ⟨#[125]⟩] 9) hpr
      have HG1 := Lib.hid (hG.step hal1)
      have HF1 := Lib.hid (hFr.trans hal1)
      have HL := Lib.hid hN3
      obtain rfl := HX.out
      clear hS hI hG hFr HA hal1 hle hown hla hb0
      go_wp2_with fail
      refine D.out.mono ?_
      rintro E w3 ⟨rfl, hI, hF⟩
      have HI3 := Lib.hid hI
      have HE3 := Lib.hid ((HG1.out.step hF).sr (by have := HL.out; simp [PL.st]; omega))
      have HF3 := Lib.hid (HF1.out.trans hF)
      clear hI hF D HG1 HF1
      go_wp2_with fail
      go_ret
      exact ⟨Ax, cx, rfl, HE3.out, HI3.out, HF3.out⟩
    · have q2 : (0 : Int) < (lf : Int) := by omega
      obtain ⟨m, rfl⟩ : ∃ m', m = m' + 1 := ⟨m - 1, by omega⟩
      have hb1 : mkBl (mkS n) (m + 1) lf cs' = ⟨((mkS n lf cs').s, (mkS n lf cs').tk) :: (mkBl (mkS n) m (mkS n lf cs').left (mkS n lf cs').cs).ps, (mkBl (mkS n) m (mkS n lf cs').left (mkS n lf cs').cs).left, (mkBl (mkS n) m (mkS n lf cs').left (mkS n lf cs').cs).cs⟩ := by rw [mkBl, if_neg hl]
      rw [hb1] at hacc hlf9 hcs9 hle hla
      simp only at hacc hlf9 hcs9
      have hleft := mkS_left n lf cs'
      have X := HSt.out wr p M all cs' lf (out ++ (tOpC :: PL.tk acc)) hI (by omega) hlf (by simp [PL.tk] at hle hbl ⊢; omega)
      generalize hr : mkS n lf cs' = r at *
      have X := Lib.hid X
      have HG0 := Lib.hid hG
      have HF0 := Lib.hid hFr
      have hla3 : acc.length ≤ 3 := by simp at hla; omega
      clear hI hG hFr HA hb1 hle hla
      go_wp2_with fail
      refine X.out.mono ?_
      rintro E w3 ⟨va, vb, ve, rfl, hS, hI, hF⟩
      obtain ⟨Aa, ca, rfl⟩ := hS.a.slice
      obtain ⟨Ab, cb, rfl⟩ := hS.b.slice
      obtain ⟨Ae, ce, rfl⟩ := hS.e.slice
      obtain ⟨g, cap, w8, r8, hG8, hI8, hF8⟩ := stM_app hI rfl hMW (HF0.out.trans hF) (HG0.out.step hF) hS hown HF0.out.size (by simp [PL.st]; omega) 25
      have hst : (PL.st acc).length = acc.length := by simp [PL.st]
      rw [hst] at r8 hG8
      have R8 := Lib.hid r8
      have HI8 := Lib.hid hI8
      have HG8 := Lib.hid hG8
      have HF8 := Lib.hid hF8
      clear hS hI hF X HG0 HF0 r8 hown hI8 hG8 hF8 hst
      have HN := Lib.hid (show BlI W p M all (mkS n) out tot left9 cs9 m (acc ++ [(r.s, r.tk)]) (.slice (some ⟨g, 0, none⟩) (acc.length + 1) cap) w8 from ⟨⟨r.cs, r.left, by rw [PL.tk_snoc, ← List.cons_append, ← List.append_assoc]; exact HI8.out, by omega, by rw [List.append_assoc]; exact hacc, hlf9, hcs9⟩, by rw [PL.st_snoc]; exact HG8.out, HF8.out⟩)
      have hm' := hm.out
      clear hacc hlf9 hcs9 HI8 HG8 HF8 HX k2
      go_wp2_with (at_builtin; refine Lib.wpList_append_run _ rfl _ _ _ _ rfl _ _ rfl rfl _ _ R8.out ?_)
      go_wp2_with fail
      go_roundw
      case rel => exact ⟨m, _, by go_num, Lib.hid (by omega), HN, _, _, Lib.hid (by rw [List.length_append]; rfl)⟩
      case measure => simp [intOf]
end Go.Proofs.YtipepljmfgjbpaaGreatDoor.E6

namespace Go.Proofs.YtipepljmfgjbpaaGreatDoor.E6
open Go Go.RowKit Go.Proofs.YtipepljmfgjbpaaGreatDoor Go.Proofs.YtipepljmfgjbpaaGreatDoor.E5

/-- In the midst of stmt: the result's box, the statement's box at q, the maker. -/
structure MidS (W wr : World) (p M : Nat) (all cs : List Nat) (left : Int) (out : TL) (q : Nat) (a0 a1 a2 a3 a4 a5 a6 a7 : Value) : Prop where
  r8 : R8 wr W.heap.size
  pt0 : PtM p W.heap.size wr W.heap.size
  row : wr.heap[q]? = some (.cells #[a0, a1, a2, a3, a4, a5, a6, a7] 27 (0, 0))
  pt : PtM p (W.heap.size + 1) wr q
  mki : MkI wr p M all cs left out
  fr : FrM p W wr
  le : M ≤ W.heap.size
section
variable {W wr : World} {p M : Nat} {all cs : List Nat} {left : Int} {out : TL} {q : Nat} {a0 a1 a2 a3 a4 a5 a6 a7 : Value}
theorem MidS.step {w' : World} {cs' : List Nat} {left' : Int} {out' : TL} (h : MidS W wr p M all cs left out q a0 a1 a2 a3 a4 a5 a6 a7) (hI : MkI w' p M all cs' left' out') (hF : FrM p wr w') : MidS W w' p M all cs' left' out' q a0 a1 a2 a3 a4 a5 a6 a7 := by
  obtain ⟨b0, b1, b2, b3, b4, b5, b6, b7, e⟩ := h.r8
  exact ⟨⟨b0, b1, b2, b3, b4, b5, b6, b7, (h.pt0.heap hF).trans e⟩, h.pt0.mv hF, (h.pt.heap hF).trans h.row, h.pt.mv hF, hI, h.fr.trans hF, h.le⟩
theorem MidS.p_lt (h : MidS W wr p M all cs left out q a0 a1 a2 a3 a4 a5 a6 a7) : p < wr.heap.size := h.mki.p_lt
theorem MidS.al (h : MidS W wr p M all cs left out q a0 a1 a2 a3 a4 a5 a6 a7) (o : Obj) : MidS W (wr.alloc o) p M all cs left out q a0 a1 a2 a3 a4 a5 a6 a7 := h.step (h.mki.al o) (.al wr o h.p_lt)
theorem MidS.cast {out' : TL} (h : MidS W wr p M all cs left out q a0 a1 a2 a3 a4 a5 a6 a7) (e : out = out') : MidS W wr p M all cs left out' q a0 a1 a2 a3 a4 a5 a6 a7 := e ▸ h
theorem MidS.facts (h : MidS W wr p M all cs left out q a0 a1 a2 a3 a4 a5 a6 a7) : wr.cell? ⟨q, 0, none⟩ = some a0 ∧ wr.cell? ⟨q, 1, none⟩ = some a1 ∧ wr.cell? ⟨q, 2, none⟩ = some a2 ∧ wr.cell? ⟨q, 3, none⟩ = some a3 ∧ wr.cell? ⟨q, 4, none⟩ = some a4 ∧ wr.cell? ⟨q, 5, none⟩ = some a5 ∧ wr.cell? ⟨q, 6, none⟩ = some a6 ∧ wr.cell? ⟨q, 7, none⟩ = some a7 := row8_facts h.row
theorem MidS.froz {i : Nat} (h : MidS W wr p M all cs left out q a0 a1 a2 a3 a4 a5 a6 a7) : wr.frozen? ⟨q, i, none⟩ = false := by
  unfold World.frozen?; rw [h.row]; simp
theorem MidS.base {i : Nat} (h : MidS W wr p M all cs left out q a0 a1 a2 a3 a4 a5 a6 a7) (u : Value) : R8 (wr.setCell ⟨q, i, none⟩ u) W.heap.size ∧ PtM p W.heap.size (wr.setCell ⟨q, i, none⟩ u) W.heap.size ∧ PtM p (W.heap.size + 1) (wr.setCell ⟨q, i, none⟩ u) q ∧ MkI (wr.setCell ⟨q, i, none⟩ u) p M all cs left out ∧ FrM p W (wr.setCell ⟨q, i, none⟩ u) := by
  obtain ⟨b0, b1, b2, b3, b4, b5, b6, b7, e⟩ := h.r8
  have hne : W.heap.size ≠ q := by have := h.pt.1; omega
  have hqp := h.pt.2.2.1
  exact ⟨⟨b0, b1, b2, b3, b4, b5, b6, b7, (Below.heap_setCell _ _ _ _ hne).trans e⟩, h.pt0.set hqp, h.pt.set hqp, h.mki.set (h.pt.mono (Nat.le_succ _)) (by have := h.le; have := h.pt.1; omega) i u, h.fr.set (by have := h.pt.1; omega) hqp⟩
theorem MidS.set2 (h : MidS W wr p M all cs left out q a0 a1 a2 a3 a4 a5 a6 a7) (u : Value) : MidS W (wr.setCell ⟨q, 2, none⟩ u) p M all cs left out q a0 a1 u a3 a4 a5 a6 a7 := by
  obtain ⟨h1, h2, h3, h4, h5⟩ := h.base (i := 2) u
  refine ⟨h1, h2, ?_, h3, h4, h5, h.le⟩
  have hr := h.row
  simp only [World.setCell, Array.getElem?_modify, if_true, hr]
  rfl
theorem MidS.set3 (h : MidS W wr p M all cs left out q a0 a1 a2 a3 a4 a5 a6 a7) (u : Value) : MidS W (wr.setCell ⟨q, 3, none⟩ u) p M all cs left out q a0 a1 a2 u a4 a5 a6 a7 := by
  obtain ⟨h1, h2, h3, h4, h5⟩ := h.base (i := 3) u
  refine ⟨h1, h2, ?_, h3, h4, h5, h.le⟩
  have hr := h.row
  simp only [World.setCell, Array.getElem?_modify, if_true, hr]
  rfl
theorem MidS.set4 (h : MidS W wr p M all cs left out q a0 a1 a2 a3 a4 a5 a6 a7) (u : Value) : MidS W (wr.setCell ⟨q, 4, none⟩ u) p M all cs left out q a0 a1 a2 a3 u a5 a6 a7 := by
  obtain ⟨h1, h2, h3, h4, h5⟩ := h.base (i := 4) u
  refine ⟨h1, h2, ?_, h3, h4, h5, h.le⟩
  have hr := h.row
  simp only [World.setCell, Array.getElem?_modify, if_true, hr]
  rfl
theorem MidS.set5 (h : MidS W wr p M all cs left out q a0 a1 a2 a3 a4 a5 a6 a7) (u : Value) : MidS W (wr.setCell ⟨q, 5, none⟩ u) p M all cs left out q a0 a1 a2 a3 a4 u a6 a7 := by
  obtain ⟨h1, h2, h3, h4, h5⟩ := h.base (i := 5) u
  refine ⟨h1, h2, ?_, h3, h4, h5, h.le⟩
  have hr := h.row
  simp only [World.setCell, Array.getElem?_modify, if_true, hr]
  rfl
theorem MidS.set6 (h : MidS W wr p M all cs left out q a0 a1 a2 a3 a4 a5 a6 a7) (u : Value) : MidS W (wr.setCell ⟨q, 6, none⟩ u) p M all cs left out q a0 a1 a2 a3 a4 a5 u a7 := by
  obtain ⟨h1, h2, h3, h4, h5⟩ := h.base (i := 6) u
  refine ⟨h1, h2, ?_, h3, h4, h5, h.le⟩
  have hr := h.row
  simp only [World.setCell, Array.getElem?_modify, if_true, hr]
  rfl
theorem MidS.set7 (h : MidS W wr p M all cs left out q a0 a1 a2 a3 a4 a5 a6 a7) (u : Value) : MidS W (wr.setCell ⟨q, 7, none⟩ u) p M all cs left out q a0 a1 a2 a3 a4 a5 a6 u := by
  obtain ⟨h1, h2, h3, h4, h5⟩ := h.base (i := 7) u
  refine ⟨h1, h2, ?_, h3, h4, h5, h.le⟩
  have hr := h.row
  simp only [World.setCell, Array.getElem?_modify, if_true, hr]
  rfl
theorem MidS.er {l : List Ex} {v u : Value} {i : Nat} (h : MidS W wr p M all cs left out q a0 a1 a2 a3 a4 a5 a6 a7) (hE : S3.ER wr (PtM p (q + 1) wr) l v) : S3.ER (wr.setCell ⟨q, i, none⟩ u) (PtM p (q + 1) (wr.setCell ⟨q, i, none⟩ u)) l v :=
  hE.keep (fun _ hx => hx.set h.pt.2.2.1) fun b _ hb => World.cell?_of_block (w := wr) (Below.heap_setCell _ _ _ b (by have := hb.1; show b ≠ q; omega))
theorem MidS.sr {l : List St} {v u : Value} {i : Nat} (h : MidS W wr p M all cs left out q a0 a1 a2 a3 a4 a5 a6 a7) (hE : S3.SR wr (PtM p (q + 1) wr) l v) : S3.SR (wr.setCell ⟨q, i, none⟩ u) (PtM p (q + 1) (wr.setCell ⟨q, i, none⟩ u)) l v :=
  hE.keep (fun _ hx => hx.set h.pt.2.2.1) fun b _ hb => World.cell?_of_block (w := wr) (Below.heap_setCell _ _ _ b (by have := hb.1; show b ≠ q; omega))
/-- One argument in an array of its own, stored into the statement's box. -/
theorem MidS.one {e : Ex} {A : Option Addr} {k c n5 : Nat} (h : MidS W wr p M all cs left out q a0 a1 a2 a3 a4 a5 a6 a7) (hE : S3.ER wr (PtM p n5 wr) e.args (.slice A k c)) (hn : q < n5) (ho : S3.OkE e) :
    MidS W ((wr.setCell ⟨q, 5, none⟩ (.slice (some ⟨wr.heap.size, 0, none⟩) 1 1)).alloc (S3.eO e (.slice A k c))) p M all cs left out q a0 a1 a2 a3 a4 (.slice (some ⟨wr.heap.size, 0, none⟩) 1 1) a6 a7 ∧
      S3.ER ((wr.setCell ⟨q, 5, none⟩ (.slice (some ⟨wr.heap.size, 0, none⟩) 1 1)).alloc (S3.eO e (.slice A k c))) (PtM p (q + 1) ((wr.setCell ⟨q, 5, none⟩ (.slice (some ⟨wr.heap.size, 0, none⟩) 1 1)).alloc (S3.eO e (.slice A k c)))) [e] (.slice (some ⟨wr.heap.size, 0, none⟩) 1 1) ∧
      ((wr.setCell ⟨q, 5, none⟩ (.slice (some ⟨wr.heap.size, 0, none⟩) 1 1)).alloc (S3.eO e (.slice A k c))).heap.size = wr.heap.size + 1 := by
  have h5 := h.set5 (.slice (some ⟨wr.heap.size, 0, none⟩) 1 1)
  have hz : (wr.setCell ⟨q, 5, none⟩ (.slice (some ⟨wr.heap.size, 0, none⟩) 1 1)).heap.size = wr.heap.size := by simp [World.setCell]
  have hF5 := FrM.al (wr.setCell ⟨q, 5, none⟩ (.slice (some ⟨wr.heap.size, 0, none⟩) 1 1)) (S3.eO e (.slice A k c)) h5.p_lt
  have hnew := heap_alloc_new (wr.setCell ⟨q, 5, none⟩ (.slice (some ⟨wr.heap.size, 0, none⟩) 1 1)) (S3.eO e (.slice A k c))
  have hptn := PtM.new h5.mki (S3.eO e (.slice A k c)) (n := q + 1) h5.pt.2.1
  have hz2 := S3.sz1 (wr.setCell ⟨q, 5, none⟩ (.slice (some ⟨wr.heap.size, 0, none⟩) 1 1)) (S3.eO e (.slice A k c))
  rw [hz] at hnew hptn hz2
  have hE5 := h.er (i := 5) (u := .slice (some ⟨wr.heap.size, 0, none⟩) 1 1) (hE.keep (fun _ hx => hx.mono (by omega)) fun _ _ _ => rfl)
  have hE6 := er_frm' hE5 hF5
  refine ⟨h5.al _, ?_, hz2⟩
  refine S3.ER.mk [e] (some ⟨wr.heap.size, 0, none⟩) 1 (fun _ => .slice A k c) (by simp) (fun j y hy => ?_) (fun j y hy => ?_)
  · rcases j with _ | j
    · simp at hy; subst hy
      exact ⟨wr.heap.size, 0, rfl, hptn, ho, (cell_of_row _ _ 0 _ _ _ hnew).trans rfl, (cell_of_row _ _ 1 _ _ _ hnew).trans rfl, (cell_of_row _ _ 2 _ _ _ hnew).trans rfl, (cell_of_row _ _ 3 _ _ _ hnew).trans rfl, (cell_of_row _ _ 4 _ _ _ hnew).trans rfl⟩
    · simp at hy
  · rcases j with _ | j
    · simp at hy; subst hy; exact hE6
    · simp at hy
/-- The end: the eight cells are laid into the result's box. -/
theorem MidS.done {s : St} {tk : TL} {lf : Nat} {va vb ve : Value} (h : MidS W wr p M all cs (lf : Int) (out ++ tk) q a0 a1 a2 a3 a4 a5 a6 a7) (hS : SIs wr (PtM p (q + 1) wr) s va vb ve) (b0 b1 b2 b3 b4 b5 b6 b7 : Value) :
    StP W p M all out ⟨s, tk, lf, cs⟩ (.returned (S3.sV s va vb ve)) (put8 wr W.heap.size b0 b1 b2 b3 b4 b5 b6 b7) := by
  have hne := h.pt0.2.2.1
  have s := fun (n b i : Nat) (u : Value) (w : World) (hb : PtM p n w b) => PtM.set (i := i) (u := u) hb hne
  have m0 := h.mki.set h.pt0 h.le 0 b0
  have p0 := s _ _ 0 b0 _ h.pt0
  have m1 := m0.set p0 h.le 1 b1
  have p1 := s _ _ 1 b1 _ p0
  have m2 := m1.set p1 h.le 2 b2
  have p2 := s _ _ 2 b2 _ p1
  have m3 := m2.set p2 h.le 3 b3
  have p3 := s _ _ 3 b3 _ p2
  have m4 := m3.set p3 h.le 4 b4
  have p4 := s _ _ 4 b4 _ p3
  have m5 := m4.set p4 h.le 5 b5
  have p5 := s _ _ 5 b5 _ p4
  have m6 := m5.set p5 h.le 6 b6
  have p6 := s _ _ 6 b6 _ p5
  have m7 := m6.set p6 h.le 7 b7
  have all8 : ∀ n b, PtM p n wr b → PtM p n (put8 wr W.heap.size b0 b1 b2 b3 b4 b5 b6 b7) b := fun n b hb => s _ _ _ _ _ (s _ _ _ _ _ (s _ _ _ _ _ (s _ _ _ _ _ (s _ _ _ _ _ (s _ _ _ _ _ (s _ _ _ _ _ (s _ _ _ _ _ hb)))))))
  exact ⟨va, vb, ve, rfl, hS.keep (fun b hb => (all8 _ b hb).mono (by have := h.pt.1; omega)) fun b _ hb => World.cell?_of_block (w := wr) (put8_heap wr W.heap.size b0 b1 b2 b3 b4 b5 b6 b7 b (by have := hb.1; have := h.pt.1; omega)), m7, (((((((h.fr.set (Nat.le_refl _) hne).set (Nat.le_refl _) hne).set (Nat.le_refl _) hne).set (Nat.le_refl _) hne).set (Nat.le_refl _) hne).set (Nat.le_refl _) hne).set (Nat.le_refl _) hne).set (Nat.le_refl _) hne⟩
end
end Go.Proofs.YtipepljmfgjbpaaGreatDoor.E6
