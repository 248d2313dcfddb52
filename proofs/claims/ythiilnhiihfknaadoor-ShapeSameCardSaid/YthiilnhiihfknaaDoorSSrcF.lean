/-
  A draft's source: function: contract.
  A draft's Made: contract.
  What the laws over drafts share: equality and numbers; a row of functions in one block.
  A datum read at a draft, opened.
-/
import Derived.Test.YthiilnhiihfknaaDoorSSrcU
import Derived.Test.YthiilnhiihfknaaDoorSGrow
import Derived.Deep.RegionLaw
import Derived.Laws.AppendOwnNone
import Derived.Test.YthiilnhiihfknaaDoorSRNum
import Derived.Test.YthiilnhiihfknaaDoorSFun
import Derived.Test.YthiilnhiihfknaaDoorSNumOk
import Derived.Test.YthiilnhiihfknaaDoorSFrame
namespace Go.Proofs.YthiilnhiihfknaaDoor
open Go Go.RowKit

theorem BF.new (w : World) (nm : Bytes) (vp : Value) (rs : Int) (vb : Value) (ct : Int) : BF (w.alloc (.cells #[.string (B nm), vp, .int .i64 rs, vb, .int .i64 ct] 43)) w.heap.size nm vp rs vb ct := BF.of (heap_alloc_new w _)
/-- What the world holds on the way: the source, the two boxes (the result's and the variable's). -/
structure AtF (w : World) (S M : Nat) (l : Bytes) (W1 : Nat) (s : Sr) (nm : Bytes) (vp : Value) (rs : Int) (vb : Value) (wr : World) : Prop where
  fr : Fr S S w wr
  src : SrcAt wr S M l s
  z : BF wr w.heap.size [] (.slice none 0 0) 0 (.slice none 0 0) 0
  x : BF wr W1 nm vp rs vb 0
  lt : w.heap.size < W1
  lt2 : W1 < wr.heap.size
section
variable {w : World} {S M : Nat} {l : Bytes} {W1 : Nat} {s s' : Sr} {nm : Bytes} {vp vb : Value} {rs : Int} {wr w' : World}
theorem AtF.go (h : AtF w S M l W1 s nm vp rs vb wr) (hS : S < w.heap.size) (hf : Fr S S wr w') (hs : SrcAt w' S M l s') : AtF w S M l W1 s' nm vp rs vb w' :=
  ⟨h.fr.trans hf, hs, h.z.fr hf (by omega) (by omega), h.x.fr hf (by have := h.lt; omega) (by have := h.lt; omega), h.lt, Nat.lt_of_lt_of_le h.lt2 hf.size⟩
theorem AtF.of {vp' vb' : Value} {j : Nat} {u : Value} (h : AtF w S M l W1 s nm vp rs vb wr) (hM : M ≤ w.heap.size) (hx : BF (wr.setCell ⟨W1, j, none⟩ u) W1 nm vp' rs vb' 0) : AtF w S M l W1 s nm vp' rs vb' (wr.setCell ⟨W1, j, none⟩ u) :=
  ⟨h.fr.setNew (p := ⟨W1, j, none⟩) (by show w.heap.size ≤ W1; have := h.lt; omega) _, h.src.set (p := ⟨W1, j, none⟩) (by show M ≤ W1; have := h.lt; omega) _, h.z.keep (Below.heap_setCell _ _ _ _ (by show w.heap.size ≠ W1; have := h.lt; omega)), hx, h.lt, by rw [size_set]; exact h.lt2⟩
/-- The world has turned behind the boxes alone. -/
theorem AtF.bel (h : AtF w S M l W1 s nm vp rs vb wr) (hM : M ≤ w.heap.size) (hb : Below (W1 + 1) wr w') (hsz : wr.heap.size ≤ w'.heap.size) : AtF w S M l W1 s nm vp rs vb w' := by
  have h1 := h.lt
  have h2 := h.fr.size
  refine ⟨⟨hb.os.trans h.fr.os, hb.tape.trans h.fr.tape, hb.output.trans h.fr.output, by omega, fun b hb' h3 h4 => (hb.block b (by omega)).trans (h.fr.block b hb' h3 h4)⟩, h.src.low hsz fun b hb' => hb.block b (by omega), h.z.keep (hb.block _ (by omega)), h.x.keep (hb.block _ (by omega)), h.lt, by have := h.lt2; omega⟩
theorem AtF.left {p lf : Nat} (h : AtF w S M l W1 ⟨p, lf⟩ nm vp rs vb wr) (hS : S < w.heap.size) : AtF w S M l W1 ⟨p, 12⟩ nm vp rs vb (wr.setCell ⟨S, 2, none⟩ (.int .i64 12)) := by
  have h1 := h.lt
  exact ⟨h.fr.set (p := ⟨S, 2, none⟩) (.inl rfl) _, h.src.setLeft (p := 12) (Nat.le_refl _), h.z.keep (Below.heap_setCell _ _ _ _ (by show w.heap.size ≠ S; omega)), h.x.keep (Below.heap_setCell _ _ _ _ (by show W1 ≠ S; omega)), h.lt, by rw [size_set]; exact h.lt2⟩
end
abbrev store5F (w : World) (b : Nat) (f : Fn) (vp vb : Value) : World :=
  (((((w.setCell ⟨b, 0, none⟩ (.string (B f.name))).setCell ⟨b, 1, none⟩ vp).setCell ⟨b, 2, none⟩ (.int .i64 f.result)).setCell ⟨b, 3, none⟩ vb).setCell ⟨b, 4, none⟩ (.int .i64 f.count))
theorem store5F_size (w : World) (b : Nat) (f : Fn) (vp vb : Value) : (store5F w b f vp vb).heap.size = w.heap.size := by simp only [store5F, size_set]
theorem store5F_cell (w : World) (g : Nat) (f : Fn) (vp vb : Value) {b : Nat} (hb : b ≠ g) (k : Nat) : (store5F w g f vp vb).cell? ⟨b, k, none⟩ = w.cell? ⟨b, k, none⟩ := by
  apply World.cell?_of_block
  simp only [store5F]
  rw [Below.heap_setCell _ _ _ b hb, Below.heap_setCell _ _ _ b hb, Below.heap_setCell _ _ _ b hb, Below.heap_setCell _ _ _ b hb, Below.heap_setCell _ _ _ b hb]
def FnR (w : World) (S M : Nat) (l : Bytes) (r : Fn × Sr) (e : Ending) (w' : World) : Prop :=
  ∃ vp vb, e = .returned (fV r.1 vp vb) ∧ Fr S S w w' ∧ SrcAt w' S M l r.2 ∧ NewF w' (Rn w.heap.size w'.heap.size) r.1 vp vb
def ParI (w : World) (S M : Nat) (l : Bytes) (W1 : Nat) (nm : Bytes) (rs : Int) (a left : Nat) (i : Nat) (vp : Value) (wr : World) : Prop :=
  AtF w S M l W1 ⟨(paramsD l i a).2, left⟩ nm vp rs (.slice none 0 0) wr ∧ GrI kP (W1 + 1) (paramsD l i a).1 vp wr
theorem fn_fin {w w2 : World} {S M : Nat} {l : Bytes} {s' : Sr} {f : Fn} {vp vb : Value} (hM : M ≤ w.heap.size) (hF : Fr S S w w2) (hS : SrcAt w2 S M l s') (hE : NewF w2 (fun b => w.heap.size < b ∧ b < w2.heap.size) f vp vb) :
    FnR w S M l (f, s') (.returned (fV f vp vb)) (store5F w2 w.heap.size f vp vb) := by
  refine ⟨vp, vb, rfl, ?_, ?_, ?_⟩
  · exact ((((hF.setNew (p := ⟨w.heap.size, _, none⟩) (Nat.le_refl _) _).setNew (p := ⟨w.heap.size, _, none⟩) (Nat.le_refl _) _).setNew (p := ⟨w.heap.size, _, none⟩) (Nat.le_refl _) _).setNew (p := ⟨w.heap.size, _, none⟩) (Nat.le_refl _) _).setNew (p := ⟨w.heap.size, _, none⟩) (Nat.le_refl _) _
  · exact ((((hS.set (p := ⟨w.heap.size, _, none⟩) hM _).set (p := ⟨w.heap.size, _, none⟩) hM _).set (p := ⟨w.heap.size, _, none⟩) hM _).set (p := ⟨w.heap.size, _, none⟩) hM _).set (p := ⟨w.heap.size, _, none⟩) hM _
  · exact hE.keep (fun b hb => ⟨by omega, by rw [store5F_size]; exact hb.2⟩) fun b i hb => store5F_cell _ _ _ _ _ (by omega) _
theorem paramsD_okP (l : Bytes) (a : Nat) : OkP ⟨nameD l a, 1 + (nextD l 3 (stepD l a) : Int)⟩ := by
  have h1 := nameD_len l a
  have h2 := nextD_lt l (n := 3) (stepD l a) (by omega)
  exact ⟨by simp only; omega, by unfold okI; simp only; omega⟩
theorem ParI.step {w wr w3 : World} {S M : Nat} {l : Bytes} {W1 : Nat} {nm : Bytes} {rs : Int} {a left i : Nat} {vp : Value} (h : ParI w S M l W1 nm rs a left i vp wr) (hM : M ≤ w.heap.size) (hS : S < w.heap.size) (hf : Fr S S wr w3)
    (hs : SrcAt w3 S M l ⟨(paramsD l (i + 1) a).2, left⟩) : W1 + 1 ≤ w3.heap.size ∧ ∃ xs, w3.ownsRow (W1 + 1) 61 2 vp i xs ∧
    ∀ (o : Obj) g cap w8, w8.ownsRow (W1 + 1) 61 2 (.slice (some ⟨g, 0, none⟩) (i + 1) cap) (i + 1) (xs ++ pC ⟨nameD l (paramsD l i a).2, 1 + (nextD l 3 (stepD l (paramsD l i a).2) : Int)⟩) → (w3.alloc o).grownBy w8 vp.ownBlock → (vp.ownBlock = some g ∨ g = (w3.alloc o).heap.size) →
      BF w8 W1 nm vp rs (.slice none 0 0) 0 ∧ ParI w S M l W1 nm rs a left (i + 1) (.slice (some ⟨g, 0, none⟩) (i + 1) cap) (w8.setCell ⟨W1, 1, none⟩ (.slice (some ⟨g, 0, none⟩) (i + 1) cap)) := by
  obtain ⟨h1, h2⟩ := h
  have hlt := h1.lt
  have hlt2 := h1.lt2
  have hsz := hf.size
  have G1 := h2.fr (by omega) hf
  have A1 := h1.go hS hf hs
  obtain ⟨xs, hown, hst⟩ := G1.own
  rw [paramsD_len] at hown hst
  refine ⟨by omega, xs, hown, fun o g cap w8 ho hg hat => ?_⟩
  obtain ⟨g1, g2⟩ := hst ⟨nameD l (paramsD l i a).2, 1 + (nextD l 3 (stepD l (paramsD l i a).2) : Int)⟩ () o g cap w8 (paramsD_okP l _) ho hg hat
  have hs8 : w3.heap.size ≤ w8.heap.size := by have := hg.size; simp at this; omega
  have A8 := A1.bel hM g2 hs8
  refine ⟨A8.x, A8.of hM (j := 1) (BF.set1 A8.x _), ?_⟩
  have e : (paramsD l (i + 1) a).1 = (paramsD l i a).1 ++ [⟨nameD l (paramsD l i a).2, 1 + (nextD l 3 (stepD l (paramsD l i a).2) : Int)⟩] := rfl
  rw [e]
  exact g1.keep (by rw [size_set]; exact Nat.le_refl _) fun b h3 _ => Below.heap_setCell _ _ _ _ (by show b ≠ W1; omega)

set_option maxRecDepth 100000 in
set_option maxHeartbeats 8000000 in
theorem fnD_calls (S M : Nat) (l : Bytes) (nm : Bytes) (hnm : nm.length ≤ 1000) (s : Sr) (w : World) (hs : SrcAt w S M l s) :
    Calls Tryd.prog 67 #[.pointer (some ⟨S, 0, none⟩), .string (B nm)] w (FnR w S M l (fnD l nm s)) := by
  have HS := Lib.hid hs
  have hsl := hs.slt
  have hM := hs.le
  have hr4 := nextD_lt l (n := 4) s.pos (by omega)
  have hn3 := nextD_lt l (n := 3) (stepD l s.pos) (by omega)
  have HX := Lib.hid (show fnD l nm s = (⟨nm, (paramsD l (nextD l 3 (stepD l s.pos)) (stepD l (stepD l s.pos))).1, (nextD l 4 s.pos : Int), (blockD l 3 ⟨(paramsD l (nextD l 3 (stepD l s.pos)) (stepD l (stepD l s.pos))).2, 12⟩).1 ++ (blockD l 3 (blockD l 3 ⟨(paramsD l (nextD l 3 (stepD l s.pos)) (stepD l (stepD l s.pos))).2, 12⟩).2).1, 0⟩, (blockD l 3 (blockD l 3 ⟨(paramsD l (nextD l 3 (stepD l s.pos)) (stepD l (stepD l s.pos))).2, 12⟩).2).2) from rfl)
  obtain ⟨i2, hi2, hz0, hz1, hz2⟩ := info_parts infoP
  obtain ⟨i1, hi1, hy0, hy1, hy2⟩ := info_parts infoS
  have HI1 := Lib.hid hi1
  have HY0 := Lib.hid hy0
  have HY1 := Lib.hid hy1
  have HY2 := Lib.hid hy2
  have HI2 := Lib.hid hi2
  have HZ0 := Lib.hid hz0
  have HZ1 := Lib.hid hz1
  have HZ2 := Lib.hid hz2
  clear hs hi1 hy0 hy1 hy2 hi2 hz0 hz1 hz2
  go_enter Tryd.func67, Tryd.ntmps67
  go_wp2_with fail
  refine (next_calls S M l s 4 (by omega) (by omega) _ (HS.out.bel (bal _ _))).mono ?_
  rintro e w1 ⟨rfl, hf1, hs1⟩
  have hz1 : w.heap.size < w1.heap.size := by have := hf1.size; simp at this; omega
  have HA1 := Lib.hid (show AtF w S M l w1.heap.size ⟨stepD l s.pos, s.left⟩ nm (.slice none 0 0) (nextD l 4 s.pos : Nat) (.slice none 0 0) (w1.alloc (.cells #[.string (B nm), .slice none 0 0, .int .i64 (nextD l 4 s.pos : Nat), .slice none 0 0, .int .i64 0] 43)) from
    ⟨((Fr.of (N := S) (S := S) (bal w _)).trans hf1).trans (Fr.of (bal _ _)), hs1.bel (bal _ _), ((BF.new w [] (.slice none 0 0) 0 (.slice none 0 0) 0).fr hf1 (by omega) (by omega)).bel (bal _ _) hz1, BF.new _ _ _ _ _ _, hz1, by simp⟩)
  clear hf1 hs1
  go_wp2_with fail
  refine (next_calls S M l ⟨stepD l s.pos, s.left⟩ 3 (by omega) (by omega) _ HA1.out.src).mono ?_
  rintro e w2 ⟨rfl, hf2, hs2⟩
  have HI := Lib.hid (show ParI w S M l w1.heap.size nm (nextD l 4 s.pos : Nat) (stepD l (stepD l s.pos)) s.left 0 (.slice none 0 0) w2 from ⟨HA1.out.go hsl hf2 hs2, GrI.start kP (by have := hf2.size; simp at this; omega) (fun _ => ())⟩)
  have HN := Lib.hid (show ∃ n, n = nextD l 3 (stepD l s.pos) from ⟨_, rfl⟩)
  clear hf2 hs2
  generalize hn : nextD l 3 (stepD l s.pos) = n at *
  have Hn := Lib.hid hn
  clear hn HN
  go_wp2_with fail
  go_loopw [12] (fun c wr => ∃ (i : Nat) (vp : Value), i ≤ n ∧ c = .int .i64 i ∧ Hid (ParI w S M l w1.heap.size nm (nextD l 4 s.pos : Nat) (stepD l (stepD l s.pos)) s.left i vp wr)) (fun c _ => n - (intOf c).toNat)
  case atStart => exact ⟨0, _, by omega, rfl, HI⟩
  case round =>
    obtain ⟨i, vp, hi, rfl, HJ⟩ := hrel
    by_cases hlt : i < n
    · have c1 := HJ.out.1.x.at_.2.1
      have hW2 := HJ.out.1.lt2
      have CN := Lib.hid (fun W (h : SrcAt W S M l ⟨(paramsD l i (stepD l (stepD l s.pos))).2, s.left⟩) => nmD_calls S M l ⟨(paramsD l i (stepD l (stepD l s.pos))).2, s.left⟩ W h)
      have CX := Lib.hid (fun W (h : SrcAt W S M l ⟨stepD l (paramsD l i (stepD l (stepD l s.pos))).2, s.left⟩) => show Calls Tryd.prog 66 #[.pointer (some ⟨S, 0, none⟩), .int .i64 3] W (NextR W S M l (.int .i64 (nextD l 3 (stepD l (paramsD l i (stepD l (stepD l s.pos))).2) : Nat)) ⟨(paramsD l (i + 1) (stepD l (stepD l s.pos))).2, s.left⟩) from next_calls S M l ⟨stepD l (paramsD l i (stepD l (stepD l s.pos))).2, s.left⟩ 3 (by omega) (by omega) W h)
      have hx3 := nextD_lt l (n := 3) (stepD l (paramsD l i (stepD l (stepD l s.pos))).2) (by omega)
      have HST := Lib.hid (fun w3 hf hs => HJ.out.step (w3 := w3) hM hsl hf hs)
      generalize nameD l (paramsD l i (stepD l (stepD l s.pos))).2 = pn at *
      have HJsrc := Lib.hid HJ.out.1.src
      have hWS : w1.heap.size ≠ S := by omega
      have pcu : ∀ u ∈ pC ⟨pn, 1 + (nextD l 3 (stepD l (paramsD l i (stepD l (stepD l s.pos))).2) : Int)⟩, u.oneCell' = true := by intro u hu; simp [pC] at hu; rcases hu with rfl | rfl <;> rfl
      have PCU := Lib.hid pcu
      clear pcu
      generalize nextD l 3 (stepD l (paramsD l i (stepD l (stepD l s.pos))).2) = x3 at *
      have hw3 : IntKind.i64.wrap (1 + (x3 : Int)) = 1 + (x3 : Int) := IntWalk.i64_in _ (by omega)
      go_wp2_with fail
      go_region_law (first | (refine step_append_lies _ (by rfl) _ _ _ (by rfl) (w1.heap.size + 1) 61 i2 _ 2 24 Tryd.underlying40 HI2.out HZ0.out HZ1.out HZ2.out rfl (by omega) vp i xs (by rfl) (HOW3.out.alloc _) ⟨w3.heap.size, 0, none⟩ 1 1 (pC ⟨pn, 1 + (x3 : Int)⟩) (by rfl) (by rfl) (news_new _ _ _ _ rfl) PCU.out (by omega) (by unfold maxLen; omega) (by omega) (by simp <;> omega) _ rfl ?_; intro g cap w8 hown8 hgr8 hat hlt8; obtain ⟨b8, p8⟩ := HSS3.out _ g cap w8 hown8 hgr8 (by rcases hat with h | h; exact .inl h; exact .inr (by simp [h])); have q8 := b8.at_.2.1; have f8 := b8.free 1; have P8 := Lib.hid p8; clear hown8 hgr8 hat b8 p8) | (go_simp; go_at_call 89; refine (CN.out _ HJsrc.out.dr).mono ?_; rintro e2 w2' ⟨rfl, hf2, hs2⟩; have c2 := arr_next c1 hf2.undr hWS) | (go_simp; go_at_call 66; refine (CX.out _ hs2).mono ?_; rintro e3 w3 ⟨rfl, hf3, hs3⟩; have c3 := arr_next c2 hf3 hWS; obtain ⟨hz3, xs, hown, hst⟩ := HST.out w3 (hf2.undr.trans hf3) hs3; have hlt3 : w1.heap.size < w3.heap.size := hz3; have hne3 : w1.heap.size ≠ w3.heap.size := Nat.ne_of_lt hz3; have HOW3 := Lib.hid hown; have HSS3 := Lib.hid hst; clear hown hst))
      all_goals
        clear hf2 hs2 hf3 hs3 c1 c2 c3 q8 f8 hw3
        go_wp2_with fail
        go_roundw
        case rel => exact ⟨i + 1, _, by omega, by go_num, P8⟩
        case measure => simp [intOf]; omega
    · obtain rfl : i = n := by omega
      obtain ⟨Ap, cp, rfl⟩ := (HJ.out.2.pr (by rw [paramsD_len]; omega)).slice
      obtain ⟨A0, c0, s0, s1, s2, f1, f2, _⟩ := HJ.out.1.src.cells
      have HA2 := Lib.hid (HJ.out.1.left hsl)
      have hW2 := HJ.out.1.lt2
      have HP2 := Lib.hid (HJ.out.2.keep (w' := wr.setCell ⟨S, 2, none⟩ (.int .i64 12)) (by rw [size_set]; exact Nat.le_refl _) fun b h3 _ => Below.heap_setCell _ _ _ _ (by show b ≠ S; omega))
      have hpl := paramsD_len l i (stepD l (stepD l s.pos))
      have Hpl := Lib.hid hpl
      clear s0 s1 f1 hpl
      generalize paramsD l i (stepD l (stepD l s.pos)) = ps at *
      have hsz0 : (wr.setCell ⟨S, 2, none⟩ (.int .i64 12)).heap.size = wr.heap.size := size_set _ _ _
      have Hsz0 := Lib.hid hsz0
      clear hsz0
      go_wp2_with fail
      refine (blockD_calls S M l 3 3 ⟨ps.2, 12⟩ _ rfl (by omega) HA2.out.src).mono ?_
      rintro e w4 ⟨v4, rfl, hf4, hs4, hg4, _⟩
      have hz4 : wr.heap.size ≤ w4.heap.size := by have := hf4.size; rw [Hsz0.out] at this; exact this
      have HA4 := Lib.hid (HA2.out.go hsl hf4 hs4)
      have HP4 := Lib.hid (HP2.out.fr (by omega) hf4)
      have hg4' : GrI kS wr.heap.size (blockD l 3 ⟨ps.2, 12⟩).1 v4 w4 := by rw [Hsz0.out] at hg4; exact hg4
      have hbl := blockD_len l 3 ⟨ps.2, 12⟩
      obtain ⟨A4, c4, rfl⟩ := (hg4'.sr (by omega)).slice
      have HG4 := Lib.hid hg4'
      have HF4 := Lib.hid hf4
      clear hf4 hs4 hg4 hg4' s2 f2
      generalize blockD l 3 ⟨ps.2, 12⟩ = b4 at *
      go_wp2_with fail
      refine (blockD_calls S M l 3 3 b4.2 _ rfl (by omega) HA4.out.src).mono ?_
      rintro e w5 ⟨v5, rfl, hf5, hs5, hg5, hnil⟩
      have hz5 : w4.heap.size ≤ w5.heap.size := hf5.size
      have HA5 := Lib.hid (HA4.out.go hsl hf5 hs5)
      have HP5 := Lib.hid (HP4.out.fr (by omega) hf5)
      have HG4' := Lib.hid (HG4.out.fr (by omega) hf5)
      have hcl := blockD_len l 3 b4.2
      have HG5 := Lib.hid hg5
      have HF5 := Lib.hid (HF4.out.trans hf5)
      clear hf5 hs5 hg5
      generalize blockD l 3 b4.2 = b5 at *
      by_cases h5 : b5.1 = []
      · obtain rfl := hnil h5
        have HB6 : Hid (GrI kS wr.heap.size (b4.1 ++ b5.1) (.slice A4 (b4.1).length c4) w5) := Lib.hid (by rw [h5, List.append_nil]; exact HG4'.out)
        obtain ⟨V4, hown, _⟩ := HG4'.out
        have HOW := Lib.hid hown
        have hl5 : (b5.1).length = 0 := by rw [h5]; rfl
        clear h5 hown
        obtain ⟨x0, x1, x2, x3, x4⟩ := HA5.out.x.at_
        obtain ⟨z0, z1, z2, z3, z4⟩ := HA5.out.z.at_
        have fx := HA5.out.x.free
        have fz := HA5.out.z.free
        have hne1 : w.heap.size ≠ w1.heap.size := by omega
        have hne2 : w1.heap.size ≠ w.heap.size := by omega
        have HA7 := Lib.hid (HA5.out.of hM (j := 3) (BF.set3 HA5.out.x (.slice A4 (b4.1).length c4)))
        have hsz7 : (w5.setCell ⟨w1.heap.size, 3, none⟩ (.slice A4 (b4.1).length c4)).heap.size = w5.heap.size := size_set _ _ _
        have HNP := Lib.hid ((HP5.out.pr (by have := Hpl.out; omega)).keep (w' := w5.setCell ⟨w1.heap.size, 3, none⟩ (.slice A4 (b4.1).length c4)) (R' := fun b => w.heap.size < b ∧ b < (w5.setCell ⟨w1.heap.size, 3, none⟩ (.slice A4 (b4.1).length c4)).heap.size) (fun b hb => ⟨by have := hb.1; omega, by rw [hsz7]; exact hb.2⟩) fun b q hb => cell_set_ne (by show b ≠ w1.heap.size; have := hb.1; omega))
        have HNB := Lib.hid ((HB6.out.sr (by simp; omega)).keep (w' := w5.setCell ⟨w1.heap.size, 3, none⟩ (.slice A4 (b4.1).length c4)) (R' := fun b => w.heap.size < b ∧ b < (w5.setCell ⟨w1.heap.size, 3, none⟩ (.slice A4 (b4.1).length c4)).heap.size) (fun b hb => ⟨by have := hb.1; omega, by rw [hsz7]; exact hb.2⟩) fun b q hb => cell_set_ne (by show b ≠ w1.heap.size; have := hb.1; omega))
        clear hsz7
        go_wp2_with (at_builtin; go_loud (refine wpList_append_own_none rfl (.tmp 30) (.tmp 32) 41 rfl wr.heap.size 46 i1 8 Tryd.underlying41 HI1.out (.slice A4 (b4.1).length c4) (b4.1).length _ rfl HOW.out rfl ?_))
        obtain ⟨t0, t1, t2, t3, t4⟩ := BF.at_ (BF.set5 (nm' := nm) (vp' := .slice Ap (ps.1).length cp) (rs' := (nextD l 4 s.pos : Nat)) (vb' := .slice A4 (b4.1).length c4) (ct' := 0) HA7.out.z)
        clear x0 x1 x2 x3 x4 z0 z1 z2 z3 z4 fx fz
        refine bodyPost_ret (v := fV ⟨nm, ps.1, (nextD l 4 s.pos : Nat), b4.1 ++ b5.1, 0⟩ (.slice Ap (ps.1).length cp) (.slice A4 (b4.1).length c4)) (by simp [results, Tryd.results67, go_sem, t0, t1, t2, t3, t4]) rfl ?_
        rw [HX.out]
        exact fn_fin hM HA7.out.fr HA7.out.src ⟨⟨by simp only; omega, by unfold okI; simp only; omega, by unfold okI; simp⟩, HNP.out, HNB.out⟩
      · have hl5 : 0 < (b5.1).length := List.length_pos_iff.2 h5
        rcases HG5.out.done with ⟨h, _⟩ | ⟨g5, cap5, V5, rfl, hg5, hr5, hp5⟩
        · exact absurd h h5
        · have hpp : ∀ (j : Nat) a, (b5.1)[j]? = some a → kS.part w5 (Kg wr.heap.size (.slice A4 (b4.1).length c4) w5) a (V5 j) := fun j a hj => kS.keep (hp5 j a hj) (fun b hb => ⟨by have := hb.1; omega, hb.2.1, fun e => by have := (HG4.out.le e).2; have := hb.1; omega⟩) fun _ _ _ => rfl
          obtain ⟨xs, hown, hst⟩ := HG4'.out.cat hpp
          have hnews : ∀ j u, (kS.rows (b5.1) V5).flatten[j]? = some u → w5.cell? ((⟨g5, 0, none⟩ : Addr).add j) = some u := by
            intro j u hj
            rw [show (Addr.add ⟨g5, 0, none⟩ j) = ⟨g5, 0 + j, none⟩ by unfold Addr.add; split <;> simp_all]
            exact rows_read (sz := 8) (by omega) (RowKind.rows_sz _ _) (fun i r j u hi hj => by rw [Nat.zero_add]; exact hr5.cell hi hj) j u hj
          have hone : ∀ u ∈ (kS.rows (b5.1) V5).flatten, u.oneCell' = true := flat_one fun r hr u hu => by
            obtain ⟨j, hj, rfl⟩ := List.getElem_of_mem hr
            rw [RowKind.rows_len] at hj
            have hp := hp5 j _ (List.getElem?_eq_getElem hj)
            simp only [RowKind.rows, List.getElem_mapIdx] at hu
            have hu' : u ∈ sC ((b5.1)[j]) (V5 j).1 (V5 j).2.1 (V5 j).2.2 := hu
            simp only [sC, List.mem_cons, List.not_mem_nil, or_false] at hu'
            rcases hu' with rfl | rfl | rfl | rfl | rfl | rfl | rfl | rfl <;> first | rfl | exact slice_one (New.a hp) | exact slice_oneS (New.b hp) | exact slice_oneS (New.e hp)
          have HOW := Lib.hid hown
          have HST := Lib.hid hst
          have HNW := Lib.hid hnews
          have HON := Lib.hid hone
          have HFL := Lib.hid (show (kS.rows (b5.1) V5).flatten.length = (b5.1).length * 8 by rw [flat_len (RowKind.rows_sz _ _), RowKind.rows_len]; rfl)
          clear hr5 hp5 hpp hown hst hnews hone h5 hnil
          go_wp2_with (at_builtin; go_loud (refine wpList_append_lies _ rfl (.tmp 30) (.tmp 32) 41 rfl wr.heap.size 46 i1 _ 8 128 Tryd.underlying41 HI1.out HY0.out HY1.out HY2.out rfl (by decide) (.slice A4 (b4.1).length c4) (b4.1).length xs rfl HOW.out ⟨g5, 0, none⟩ (b5.1).length cap5 (kS.rows (b5.1) V5).flatten rfl HFL.out HNW.out HON.out hl5 (by unfold maxLen; omega) (by omega) (by omega) _ rfl ?_))
          intro g cap w8 hown8 hgr8 hat hlt8
          obtain ⟨G8, B8⟩ := HST.out g cap w8 hown8 hgr8 hat
          have hsz8 : w5.heap.size ≤ w8.heap.size := hgr8.size
          have HA8 := Lib.hid (HA5.out.bel hM (B8.mono (by omega)) hsz8)
          have HB8 := Lib.hid G8
          have HP8 : Hid (GrI kP (w1.heap.size + 1) ps.1 (.slice Ap (ps.1).length cp) w8) := Lib.hid (HP2.out.keep (by rw [Hsz0.out]; omega) fun b h1 h2 => (B8.block b (by rw [Hsz0.out] at h2; exact h2)).trans (HF5.out.block b h2 (by omega) (by omega)))
          clear hown8 hgr8 hat hlt8 G8 B8
          obtain ⟨x0, x1, x2, x3, x4⟩ := HA8.out.x.at_
          obtain ⟨z0, z1, z2, z3, z4⟩ := HA8.out.z.at_
          have fx := HA8.out.x.free
          have fz := HA8.out.z.free
          have hne1 : w.heap.size ≠ w1.heap.size := by omega
          have hne2 : w1.heap.size ≠ w.heap.size := by omega
          have HA7 := Lib.hid (HA8.out.of hM (j := 3) (BF.set3 HA8.out.x (.slice (some ⟨g, 0, none⟩) ((b4.1).length + (b5.1).length) cap)))
          have hsz7 : (w8.setCell ⟨w1.heap.size, 3, none⟩ (.slice (some ⟨g, 0, none⟩) ((b4.1).length + (b5.1).length) cap)).heap.size = w8.heap.size := size_set _ _ _
          have HNP := Lib.hid ((HP8.out.pr (by have := Hpl.out; omega)).keep (w' := w8.setCell ⟨w1.heap.size, 3, none⟩ (.slice (some ⟨g, 0, none⟩) ((b4.1).length + (b5.1).length) cap)) (R' := fun b => w.heap.size < b ∧ b < (w8.setCell ⟨w1.heap.size, 3, none⟩ (.slice (some ⟨g, 0, none⟩) ((b4.1).length + (b5.1).length) cap)).heap.size) (fun b hb => ⟨by have := hb.1; omega, by rw [hsz7]; exact hb.2⟩) fun b q hb => cell_set_ne (by show b ≠ w1.heap.size; have := hb.1; omega))
          have HNB := Lib.hid ((HB8.out.sr (by simp; omega)).keep (w' := w8.setCell ⟨w1.heap.size, 3, none⟩ (.slice (some ⟨g, 0, none⟩) ((b4.1).length + (b5.1).length) cap)) (R' := fun b => w.heap.size < b ∧ b < (w8.setCell ⟨w1.heap.size, 3, none⟩ (.slice (some ⟨g, 0, none⟩) ((b4.1).length + (b5.1).length) cap)).heap.size) (fun b hb => ⟨by have := hb.1; omega, by rw [hsz7]; exact hb.2⟩) fun b q hb => cell_set_ne (by show b ≠ w1.heap.size; have := hb.1; omega))
          clear hsz7
          go_wp2_with fail
          obtain ⟨t0, t1, t2, t3, t4⟩ := BF.at_ (BF.set5 (nm' := nm) (vp' := .slice Ap (ps.1).length cp) (rs' := (nextD l 4 s.pos : Nat)) (vb' := .slice (some ⟨g, 0, none⟩) ((b4.1).length + (b5.1).length) cap) (ct' := 0) HA7.out.z)
          clear x0 x1 x2 x3 x4 z0 z1 z2 z3 z4 fx fz
          refine bodyPost_ret (v := fV ⟨nm, ps.1, (nextD l 4 s.pos : Nat), b4.1 ++ b5.1, 0⟩ (.slice Ap (ps.1).length cp) (.slice (some ⟨g, 0, none⟩) ((b4.1).length + (b5.1).length) cap)) (by simp [results, Tryd.results67, go_sem, t0, t1, t2, t3, t4]) rfl ?_
          rw [HX.out]
          exact fn_fin hM HA7.out.fr HA7.out.src ⟨⟨by simp only; omega, by unfold okI; simp only; omega, by unfold okI; simp⟩, HNP.out, HNB.out⟩
end Go.Proofs.YthiilnhiihfknaaDoor

namespace Go.Proofs.YthiilnhiihfknaaDoor
open Go Go.RowKit

/-- What Made gives: a new row of functions, whose parts lie elsewhere. -/
def MadeR (l : Bytes) (w : World) (e : Ending) (w' : World) : Prop :=
  ∃ (g cap : Nat) (V : Nat → Value × Value), e = .returned (.agg #[.slice (some ⟨g, 0, none⟩) (madeD l).length cap]) ∧ Below w.heap.size w w' ∧ w.heap.size ≤ g ∧ RowAt w' g 43 5 cap (rowsF (madeD l) V) ∧
    ∀ (i : Nat) f, (madeD l)[i]? = some f → NewF w' (fun b => w.heap.size ≤ b ∧ b < w'.heap.size ∧ b ≠ g) f (V i).1 (V i).2 ∧ CapOk (V i).2
/-- A draft in memory. -/
def DrIn (w : World) (l : Bytes) (v : Value) : Prop := ∃ A c, v = .slice A l.length c ∧ l.length ≤ c ∧ BR w (fun b => b < w.heap.size) l v
def MadI (w : World) (l : Bytes) (s0 : Sr) (i : Nat) (vf : Value) (wr : World) : Prop :=
  Below w.heap.size w wr ∧ SrcAt wr (w.heap.size + 1) (w.heap.size + 2) l (fnsD l i s0).2 ∧ wr.heap[w.heap.size]? = some (.cells #[.slice none 0 0] 35 (0, 0)) ∧
    wr.heap[w.heap.size + 1 + 1]? = some (.cells #[vf] 35 (0, 0)) ∧ GrI kF (w.heap.size + 3) (fnsD l i s0).1 vf wr
theorem MadI.step {w wr w3 : World} {l : Bytes} {s0 : Sr} {i : Nat} {vf vp vb : Value} (h : MadI w l s0 i vf wr) (hf : Fr (w.heap.size + 1) (w.heap.size + 1) wr w3)
    (hs : SrcAt w3 (w.heap.size + 1) (w.heap.size + 2) l (fnsD l (i + 1) s0).2) (hn : NewF w3 (Rn wr.heap.size w3.heap.size) (fnD l (calD.getD i []) (fnsD l i s0).2).1 vp vb) :
    w.heap.size + 3 ≤ w3.heap.size ∧ w3.heap[w.heap.size + 1 + 1]? = some (.cells #[vf] 35 (0, 0)) ∧ ∃ xs, w3.ownsRow (w.heap.size + 3) 43 5 vf i xs ∧
    ∀ (o : Obj) g cap w8, w8.ownsRow (w.heap.size + 3) 43 5 (.slice (some ⟨g, 0, none⟩) (i + 1) cap) (i + 1) (xs ++ fC (fnD l (calD.getD i []) (fnsD l i s0).2).1 vp vb) → (w3.alloc o).grownBy w8 vf.ownBlock → (vf.ownBlock = some g ∨ g = (w3.alloc o).heap.size) →
      w8.heap[w.heap.size + 1 + 1]? = some (.cells #[vf] 35 (0, 0)) ∧ MadI w l s0 (i + 1) (.slice (some ⟨g, 0, none⟩) (i + 1) cap) (w8.setCell ⟨w.heap.size + 1 + 1, 0, none⟩ (.slice (some ⟨g, 0, none⟩) (i + 1) cap)) := by
  obtain ⟨h1, h2, h3, h4, h5⟩ := h
  have hsz := hf.size
  have l4 := lt_of_block h4
  have h43 := (hf.block _ l4 (by omega) (by omega)).trans h4
  have h33 := (hf.block _ (lt_of_block h3) (by omega) (by omega)).trans h3
  have G1 := h5.fr (by omega) hf
  have hp := h5.part (a := (fnD l (calD.getD i []) (fnsD l i s0).2).1) (x := (vp, vb)) (w1 := w3) hn
  have hb3 : Below w.heap.size w w3 := h1.trans (hf.below h1.size (by omega) (by omega))
  obtain ⟨xs, hown, hst⟩ := G1.own
  rw [fnsD_len] at hown hst
  refine ⟨by have := h5.choose_spec.2.2; omega, h43, xs, hown, fun o g cap w8 ho hg hat => ?_⟩
  obtain ⟨g1, g2⟩ := hst _ (vp, vb) o g cap w8 hp ho hg hat
  have hs8 : w3.heap.size ≤ w8.heap.size := by have := hg.size; simp at this; omega
  have h48 := (g2.block (w.heap.size + 1 + 1) (by omega)).trans h43
  have h38 := (g2.block w.heap.size (by omega)).trans h33
  refine ⟨h48, (hb3.trans (g2.mono (by omega))).setCell (p := ⟨w.heap.size + 1 + 1, 0, none⟩) (by show w.heap.size ≤ w.heap.size + 1 + 1; omega) _, (hs.low hs8 fun b hb => g2.block b (by omega)).set (p := ⟨w.heap.size + 1 + 1, 0, none⟩) (Nat.le_refl _) _, (Below.heap_setCell _ _ _ _ (by show w.heap.size ≠ w.heap.size + 1 + 1; omega)).trans h38, one_setCell h48, ?_⟩
  have e : (fnsD l (i + 1) s0).1 = (fnsD l i s0).1 ++ [(fnD l (calD.getD i []) (fnsD l i s0).2).1] := rfl
  rw [e]
  exact g1.keep (by rw [size_set]; exact Nat.le_refl _) fun b h3 _ => Below.heap_setCell _ _ _ _ (by show b ≠ w.heap.size + 1 + 1; omega)
theorem drawnD_eq (l : Bytes) : drawnD l = (fnsD (l.take 300) (1 + nextD (l.take 300) 3 0) ⟨stepD (l.take 300) 0, 0⟩).1 := rfl

set_option maxRecDepth 100000 in
set_option maxHeartbeats 8000000 in
theorem made_calls (l : Bytes) (v : Value) (w : World) (hl : DrIn w l v) :
    Calls Tryd.prog 33 #[v] w (MadeR l w) := by
  obtain ⟨A, c, rfl, hc, hb⟩ := hl
  obtain ⟨A', c', he, hlen, hcs⟩ := hb.ex
  cases he
  have HCS := Lib.hid hcs
  obtain ⟨i2, hi2, hz0, hz1, hz2⟩ := info_parts infoF
  have HI2 := Lib.hid hi2
  have HZ0 := Lib.hid hz0
  have HZ1 := Lib.hid hz1
  have HZ2 := Lib.hid hz2
  have HD := Lib.hid (drawnD_eq l)
  have hSA : ∀ (n : Nat) (W : World), (l.take 300).length = n → W = ((w.alloc (.cells #[.slice none 0 0] 35)).alloc (.cells #[.slice A n c, .int .i64 0, .int .i64 0] 84)).alloc (.cells #[.slice none 0 0] 35) →
      SrcAt W (w.heap.size + 1) (w.heap.size + 2) (l.take 300) ⟨0, 0⟩ ∧ W.heap[w.heap.size]? = some (.cells #[.slice none 0 0] 35 (0, 0)) ∧ W.heap[w.heap.size + 1 + 1]? = some (.cells #[.slice none 0 0] 35 (0, 0)) ∧ W.heap.size = w.heap.size + 3 ∧ Below w.heap.size w W := by
    intro n W hn hW
    subst hn
    have hb3 := bal3 w (.cells #[.slice none 0 0] 35) (.cells #[.slice A (l.take 300).length c, .int .i64 0, .int .i64 0] 84) (.cells #[.slice none 0 0] 35)
    obtain ⟨b1, b2, b3, b4⟩ := three w (.cells #[.slice none 0 0] 35) (.cells #[.slice A (l.take 300).length c, .int .i64 0, .int .i64 0] 84) (.cells #[.slice none 0 0] 35)
    rw [← hW] at hb3 b1 b2 b3 b4
    refine ⟨⟨⟨_, ⟨A, c, rfl, by simp; omega, fun i e hi => ?_⟩, b2⟩, by omega, by omega, by simp; omega, by simp, by simp⟩, b1, b3, b4, hb3⟩
    have h2 : l[i]? = some e := by
      rw [List.getElem?_take] at hi
      split at hi
      · exact hi
      · cases hi
    obtain ⟨b, o, g1, g2, g3⟩ := HCS.out i e h2
    exact ⟨b, o, g1, ⟨by omega, by omega⟩, (hb3.cell (p := ⟨b, o + i, none⟩) g2).trans g3⟩
  have HSA := Lib.hid hSA
  clear hb hcs hi2 hz0 hz1 hz2 hSA
  by_cases h3 : l.length ≤ 300
  · have h3' : decide (300 < l.length) = false := by simp; omega
    have HN := Lib.hid (show (l.take 300).length = l.length by simp; omega)
    go_enter Tryd.func33, Tryd.ntmps33
    go_wp2_with fail
    obtain ⟨s0, b1, b3, b4, hb3⟩ := HSA.out _ _ HN.out rfl
    have HS0 := Lib.hid s0
    have HB1 := Lib.hid b1
    have HB3 := Lib.hid b3
    have HZ := Lib.hid b4
    have HB0 := Lib.hid hb3
    clear s0 b1 b3 b4 hb3 HN HSA
    generalize (((w.alloc (.cells #[.slice none 0 0] 35)).alloc (.cells #[.slice A l.length c, .int .i64 0, .int .i64 0] 84)).alloc (.cells #[.slice none 0 0] 35)) = W0 at *
    have hnx := nextD_lt (l.take 300) (n := 3) 0 (by omega)
    have C1 := Lib.hid (show Calls Tryd.prog 66 #[.pointer (some ⟨w.heap.size + 1, 0, none⟩), .int .i64 3] W0 (NextR W0 (w.heap.size + 1) (w.heap.size + 2) (l.take 300) (.int .i64 (nextD (l.take 300) 3 0 : Nat)) ⟨stepD (l.take 300) 0, 0⟩) from next_calls (w.heap.size + 1) (w.heap.size + 2) (l.take 300) ⟨0, 0⟩ 3 (by omega) (by omega) W0 HS0.out)
    have HML := Lib.hid (show 1 ≤ (numbP (drawnD l)).length ∧ (numbP (drawnD l)).length ≤ 3 from madeD_len l)
    have HGO := Lib.hid (show ∀ e w', (e = e) → MadeR l w e w' → MadeR l w e w' from fun _ _ _ h => h)
    generalize hdl : drawnD l = dl at *
    generalize l.take 300 = l' at *
    generalize hn' : nextD l' 3 0 = n at *
    have Hn' := Lib.hid hn'
    have Hdl := Lib.hid hdl
    clear hn' hdl
    refine C1.out.mono ?_
    rintro e w1 ⟨rfl, hf1, hs1⟩
    have hw1 : w.heap.size + 3 ≤ w1.heap.size := by have := hf1.size; have := HZ.out; omega
    have HI := Lib.hid (show MadI w l' ⟨stepD l' 0, 0⟩ 0 (.slice none 0 0) w1 from ⟨HB0.out.trans (hf1.below (by have := HZ.out; omega) (by omega) (by omega)), hs1, (hf1.block _ (by have := HZ.out; omega) (by omega) (by omega)).trans HB1.out, (hf1.block _ (by have := HZ.out; omega) (by omega) (by omega)).trans HB3.out, GrI.start kF hw1 (fun _ => (.bool false, .bool false))⟩)
    clear hf1 hs1
    go_wp2_with fail
    go_loopw [16] (fun c wr => ∃ (i : Nat) (vf : Value), i ≤ 1 + n ∧ c = .int .i64 i ∧ Hid (MadI w l' ⟨stepD l' 0, 0⟩ i vf wr)) (fun c _ => 1 + n - (intOf c).toNat)
    case atStart => exact ⟨0, _, by omega, rfl, HI⟩
    case round =>
      obtain ⟨i, vf, hi, rfl, HJ⟩ := hrel
      by_cases hlt : i < 1 + n
      · have hi3 : i < 3 := by omega
        have hi1 : (0 : Int) ≤ (i : Int) := by omega
        have hi2 : (i : Int) < 3 := by omega
        have hlit : ∀ h : i < ([.string ⟨#[109, 97, 105, 110]⟩, .string ⟨#[102]⟩, .string ⟨#[103]⟩] : List Value).length, ([.string ⟨#[109, 97, 105, 110]⟩, .string ⟨#[102]⟩, .string ⟨#[103]⟩] : List Value)[i]'h = .string (B (calD.getD i [])) := by
          match i, hi3 with
          | 0, _ => intro _; rfl
          | 1, _ => intro _; rfl
          | 2, _ => intro _; rfl
        have HST := Lib.hid (fun w3 vp vb hf hs hn => HJ.out.step (w3 := w3) (vp := vp) (vb := vb) hf hs hn)
        have HSR := Lib.hid HJ.out.2.1
        have c3 := cell_of_one HJ.out.2.2.2.1
        have hwr : w.heap.size + 1 + 1 < wr.heap.size := lt_of_block HJ.out.2.2.2.1
        have CF := Lib.hid (fun W h => show Calls Tryd.prog 67 #[.pointer (some ⟨w.heap.size + 1, 0, none⟩), .string (B (calD.getD i []))] W (FnR W (w.heap.size + 1) (w.heap.size + 2) l' ((fnD l' (calD.getD i []) (fnsD l' i ⟨stepD l' 0, 0⟩).2).1, (fnsD l' (i + 1) ⟨stepD l' 0, 0⟩).2)) from fnD_calls (w.heap.size + 1) (w.heap.size + 2) l' (calD.getD i []) (by have := calD_len hi3; omega) (fnsD l' i ⟨stepD l' 0, 0⟩).2 W h)
        generalize (fnD l' (calD.getD i []) (fnsD l' i ⟨stepD l' 0, 0⟩).2).1 = x at *
        generalize calD.getD i [] = cn at *
        have FCU : ∀ (vp vb : Value), vp.oneCell' = true → vb.oneCell' = true → ∀ u ∈ fC x vp vb, u.oneCell' = true := by intro vp vb h1 h2 u hu; simp [fC] at hu; rcases hu with rfl | rfl | rfl | rfl | rfl <;> first | rfl | exact h1 | exact h2
        have HFC := Lib.hid FCU
        clear FCU
        go_wp2_with fail
        go_region_law (first | (refine step_append_lies _ (by rfl) _ _ _ (by rfl) (w.heap.size + 3) 43 i2 _ 5 80 Tryd.underlying33 HI2.out HZ0.out HZ1.out HZ2.out rfl (by omega) vf i xs (by rfl) (HOW3.out.alloc _) ⟨w3.heap.size, 0, none⟩ 1 1 (fC x (.slice Ap x.params.length cp) (.slice Ab x.body.length cb)) (by rfl) (by rfl) (news_new _ _ _ _ rfl) (HFC.out _ _ rfl rfl) (by omega) (by unfold maxLen; omega) (by omega) (by simp <;> omega) _ rfl ?_; intro g cap w8 hown8 hgr8 hat hlt8; obtain ⟨b8, p8⟩ := HSS3.out _ g cap w8 hown8 hgr8 (by rcases hat with h | h; exact .inl h; exact .inr (by simp [h])); have q8 := cell_of_one b8; have f8 := free_of_one b8; have P8 := Lib.hid p8; clear hown8 hgr8 hat b8 p8) | (go_simp; go_at_call 67; refine (CF.out _ (by first | exact HSR.out.dr | exact HSR.out.ad _)).mono ?_; rintro e3 w3 ⟨vp3, vb3, rfl, hf3, hs3, hn3⟩; obtain ⟨Ap, cp, rfl⟩ := hn3.p.slice; obtain ⟨Ab, cb, rfl⟩ := hn3.b.slice; have F3 : Fr (w.heap.size + 1) (w.heap.size + 1) wr w3 := (by first | exact hf3.undr | exact (Fr.of (bal _ _)).trans hf3.undr); obtain ⟨hz3, b33, xs, hown, hst⟩ := HST.out w3 _ _ F3 hs3 (hn3.keep (fun b hb => ⟨by have h1 := hb.1; first | exact h1 | (simp at h1; omega), hb.2⟩) fun _ _ _ => rfl); have c33 := cell_of_one b33; have hlt3 : w.heap.size + 1 + 1 < w3.heap.size := lt_of_block b33; have hne3 : w.heap.size + 1 + 1 ≠ w3.heap.size := Nat.ne_of_lt hlt3; have HOW3 := Lib.hid hown; have HSS3 := Lib.hid hst; clear hown hst b33))
        all_goals
          clear c3 q8 f8 c33 hf3 hs3 hn3 F3 hlit
          go_wp2_with fail
          go_roundw
          case rel => exact ⟨i + 1, _, by omega, by go_num, P8⟩
          case measure => simp [intOf]; omega
      · obtain rfl : i = 1 + n := by omega
        have HFR := Lib.hid (HJ.out.2.2.2.2.frF (by rw [fnsD_len]; omega))
        have HLN := Lib.hid (show (fnsD l' (1 + n) ⟨stepD l' 0, 0⟩).1 = dl from HD.out.symm)
        rw [HLN.out] at HFR
        obtain ⟨Af, cf, rfl⟩ := HFR.out.slice
        have c3 := cell_of_one HJ.out.2.2.2.1
        have HWB := Lib.hid HJ.out.1
        have HW0 := Lib.hid HJ.out.2.2.1
        have hwr : w.heap.size + 1 + 1 < wr.heap.size := lt_of_block HJ.out.2.2.2.1
        clear HJ
        go_wp2_with fail
        refine (refNumber_all dl _ (Rn (w.heap.size + 3) wr.heap.size) wr HFR.out (fun b h => h.2)).mono ?_
        rintro e w5 ⟨vq, rfl, hb5, h | ⟨g, cap, lo, V, rfl, hlo, hg, hrow, hparts⟩⟩
        · have := HML.out.1
          rw [h.1] at this
          simp at this
        · have hz5 := hb5.size
          have B0 := (hb5.block w.heap.size (by omega)).trans HW0.out
          have q0 := cell_of_one B0
          have f0 := free_of_one B0
          have q1 := cell_of_one (one_setCell (u := .slice (some ⟨g, 0, none⟩) (numbP dl).length cap) B0)
          have HP := Lib.hid (show MadeR l w (.returned (.agg #[.slice (some ⟨g, 0, none⟩) (numbP dl).length cap])) (w5.setCell ⟨w.heap.size, 0, none⟩ (.slice (some ⟨g, 0, none⟩) (numbP dl).length cap)) by
            have hgw := hrow.lt
            unfold MadeR madeD
            rw [Hdl.out]
            refine ⟨g, cap, V, rfl, (HWB.out.trans (hb5.mono (by omega))).setCell (p := ⟨w.heap.size, 0, none⟩) (Nat.le_refl _) _, by omega, hrow.keep (Below.heap_setCell _ _ _ _ (by show g ≠ w.heap.size; omega)), fun i f hi => ⟨(hparts i f hi).1.keep (fun b hb => ⟨by rcases hb.1 with h | h; have := h.1; omega; omega, by rw [size_set]; rcases hb.1 with h | h; have := h.2; omega; exact h.2, hb.2⟩) fun b q hb => cell_set_ne (by show b ≠ w.heap.size; rcases hb.1 with h | h; have := h.1; omega; omega), (hparts i f hi).2⟩⟩)
          clear hb5 hrow hparts B0 c3
          go_wp2_with fail
          refine bodyPost_ret (v := .agg #[.slice (some ⟨g, 0, none⟩) (numbP dl).length cap]) (by simp [results, Tryd.results33, go_sem, q1]) rfl ?_
          exact HP.out
  · have HN := Lib.hid (show (l.take 300).length = 300 by simp; omega)
    go_enter Tryd.func33, Tryd.ntmps33
    go_wp2_with fail
    obtain ⟨s0, b1, b3, b4, hb3⟩ := HSA.out _ _ HN.out rfl
    have HS0 := Lib.hid s0
    have HB1 := Lib.hid b1
    have HB3 := Lib.hid b3
    have HZ := Lib.hid b4
    have HB0 := Lib.hid hb3
    clear s0 b1 b3 b4 hb3 HN HSA
    generalize (((w.alloc (.cells #[.slice none 0 0] 35)).alloc (.cells #[.slice A 300 c, .int .i64 0, .int .i64 0] 84)).alloc (.cells #[.slice none 0 0] 35)) = W0 at *
    have hnx := nextD_lt (l.take 300) (n := 3) 0 (by omega)
    have C1 := Lib.hid (show Calls Tryd.prog 66 #[.pointer (some ⟨w.heap.size + 1, 0, none⟩), .int .i64 3] W0 (NextR W0 (w.heap.size + 1) (w.heap.size + 2) (l.take 300) (.int .i64 (nextD (l.take 300) 3 0 : Nat)) ⟨stepD (l.take 300) 0, 0⟩) from next_calls (w.heap.size + 1) (w.heap.size + 2) (l.take 300) ⟨0, 0⟩ 3 (by omega) (by omega) W0 HS0.out)
    have HML := Lib.hid (show 1 ≤ (numbP (drawnD l)).length ∧ (numbP (drawnD l)).length ≤ 3 from madeD_len l)
    have HGO := Lib.hid (show ∀ e w', (e = e) → MadeR l w e w' → MadeR l w e w' from fun _ _ _ h => h)
    generalize hdl : drawnD l = dl at *
    generalize l.take 300 = l' at *
    generalize hn' : nextD l' 3 0 = n at *
    have Hn' := Lib.hid hn'
    have Hdl := Lib.hid hdl
    clear hn' hdl
    refine C1.out.mono ?_
    rintro e w1 ⟨rfl, hf1, hs1⟩
    have hw1 : w.heap.size + 3 ≤ w1.heap.size := by have := hf1.size; have := HZ.out; omega
    have HI := Lib.hid (show MadI w l' ⟨stepD l' 0, 0⟩ 0 (.slice none 0 0) w1 from ⟨HB0.out.trans (hf1.below (by have := HZ.out; omega) (by omega) (by omega)), hs1, (hf1.block _ (by have := HZ.out; omega) (by omega) (by omega)).trans HB1.out, (hf1.block _ (by have := HZ.out; omega) (by omega) (by omega)).trans HB3.out, GrI.start kF hw1 (fun _ => (.bool false, .bool false))⟩)
    clear hf1 hs1
    go_wp2_with fail
    go_loopw [16] (fun c wr => ∃ (i : Nat) (vf : Value), i ≤ 1 + n ∧ c = .int .i64 i ∧ Hid (MadI w l' ⟨stepD l' 0, 0⟩ i vf wr)) (fun c _ => 1 + n - (intOf c).toNat)
    case atStart => exact ⟨0, _, by omega, rfl, HI⟩
    case round =>
      obtain ⟨i, vf, hi, rfl, HJ⟩ := hrel
      by_cases hlt : i < 1 + n
      · have hi3 : i < 3 := by omega
        have hi1 : (0 : Int) ≤ (i : Int) := by omega
        have hi2 : (i : Int) < 3 := by omega
        have hlit : ∀ h : i < ([.string ⟨#[109, 97, 105, 110]⟩, .string ⟨#[102]⟩, .string ⟨#[103]⟩] : List Value).length, ([.string ⟨#[109, 97, 105, 110]⟩, .string ⟨#[102]⟩, .string ⟨#[103]⟩] : List Value)[i]'h = .string (B (calD.getD i [])) := by
          match i, hi3 with
          | 0, _ => intro _; rfl
          | 1, _ => intro _; rfl
          | 2, _ => intro _; rfl
        have HST := Lib.hid (fun w3 vp vb hf hs hn => HJ.out.step (w3 := w3) (vp := vp) (vb := vb) hf hs hn)
        have HSR := Lib.hid HJ.out.2.1
        have c3 := cell_of_one HJ.out.2.2.2.1
        have hwr : w.heap.size + 1 + 1 < wr.heap.size := lt_of_block HJ.out.2.2.2.1
        have CF := Lib.hid (fun W h => show Calls Tryd.prog 67 #[.pointer (some ⟨w.heap.size + 1, 0, none⟩), .string (B (calD.getD i []))] W (FnR W (w.heap.size + 1) (w.heap.size + 2) l' ((fnD l' (calD.getD i []) (fnsD l' i ⟨stepD l' 0, 0⟩).2).1, (fnsD l' (i + 1) ⟨stepD l' 0, 0⟩).2)) from fnD_calls (w.heap.size + 1) (w.heap.size + 2) l' (calD.getD i []) (by have := calD_len hi3; omega) (fnsD l' i ⟨stepD l' 0, 0⟩).2 W h)
        generalize (fnD l' (calD.getD i []) (fnsD l' i ⟨stepD l' 0, 0⟩).2).1 = x at *
        generalize calD.getD i [] = cn at *
        have FCU : ∀ (vp vb : Value), vp.oneCell' = true → vb.oneCell' = true → ∀ u ∈ fC x vp vb, u.oneCell' = true := by intro vp vb h1 h2 u hu; simp [fC] at hu; rcases hu with rfl | rfl | rfl | rfl | rfl <;> first | rfl | exact h1 | exact h2
        have HFC := Lib.hid FCU
        clear FCU
        go_wp2_with fail
        go_region_law (first | (refine step_append_lies _ (by rfl) _ _ _ (by rfl) (w.heap.size + 3) 43 i2 _ 5 80 Tryd.underlying33 HI2.out HZ0.out HZ1.out HZ2.out rfl (by omega) vf i xs (by rfl) (HOW3.out.alloc _) ⟨w3.heap.size, 0, none⟩ 1 1 (fC x (.slice Ap x.params.length cp) (.slice Ab x.body.length cb)) (by rfl) (by rfl) (news_new _ _ _ _ rfl) (HFC.out _ _ rfl rfl) (by omega) (by unfold maxLen; omega) (by omega) (by simp <;> omega) _ rfl ?_; intro g cap w8 hown8 hgr8 hat hlt8; obtain ⟨b8, p8⟩ := HSS3.out _ g cap w8 hown8 hgr8 (by rcases hat with h | h; exact .inl h; exact .inr (by simp [h])); have q8 := cell_of_one b8; have f8 := free_of_one b8; have P8 := Lib.hid p8; clear hown8 hgr8 hat b8 p8) | (go_simp; go_at_call 67; refine (CF.out _ (by first | exact HSR.out.dr | exact HSR.out.ad _)).mono ?_; rintro e3 w3 ⟨vp3, vb3, rfl, hf3, hs3, hn3⟩; obtain ⟨Ap, cp, rfl⟩ := hn3.p.slice; obtain ⟨Ab, cb, rfl⟩ := hn3.b.slice; have F3 : Fr (w.heap.size + 1) (w.heap.size + 1) wr w3 := (by first | exact hf3.undr | exact (Fr.of (bal _ _)).trans hf3.undr); obtain ⟨hz3, b33, xs, hown, hst⟩ := HST.out w3 _ _ F3 hs3 (hn3.keep (fun b hb => ⟨by have h1 := hb.1; first | exact h1 | (simp at h1; omega), hb.2⟩) fun _ _ _ => rfl); have c33 := cell_of_one b33; have hlt3 : w.heap.size + 1 + 1 < w3.heap.size := lt_of_block b33; have hne3 : w.heap.size + 1 + 1 ≠ w3.heap.size := Nat.ne_of_lt hlt3; have HOW3 := Lib.hid hown; have HSS3 := Lib.hid hst; clear hown hst b33))
        all_goals
          clear c3 q8 f8 c33 hf3 hs3 hn3 F3 hlit
          go_wp2_with fail
          go_roundw
          case rel => exact ⟨i + 1, _, by omega, by go_num, P8⟩
          case measure => simp [intOf]; omega
      · obtain rfl : i = 1 + n := by omega
        have HFR := Lib.hid (HJ.out.2.2.2.2.frF (by rw [fnsD_len]; omega))
        have HLN := Lib.hid (show (fnsD l' (1 + n) ⟨stepD l' 0, 0⟩).1 = dl from HD.out.symm)
        rw [HLN.out] at HFR
        obtain ⟨Af, cf, rfl⟩ := HFR.out.slice
        have c3 := cell_of_one HJ.out.2.2.2.1
        have HWB := Lib.hid HJ.out.1
        have HW0 := Lib.hid HJ.out.2.2.1
        have hwr : w.heap.size + 1 + 1 < wr.heap.size := lt_of_block HJ.out.2.2.2.1
        clear HJ
        go_wp2_with fail
        refine (refNumber_all dl _ (Rn (w.heap.size + 3) wr.heap.size) wr HFR.out (fun b h => h.2)).mono ?_
        rintro e w5 ⟨vq, rfl, hb5, h | ⟨g, cap, lo, V, rfl, hlo, hg, hrow, hparts⟩⟩
        · have := HML.out.1
          rw [h.1] at this
          simp at this
        · have hz5 := hb5.size
          have B0 := (hb5.block w.heap.size (by omega)).trans HW0.out
          have q0 := cell_of_one B0
          have f0 := free_of_one B0
          have q1 := cell_of_one (one_setCell (u := .slice (some ⟨g, 0, none⟩) (numbP dl).length cap) B0)
          have HP := Lib.hid (show MadeR l w (.returned (.agg #[.slice (some ⟨g, 0, none⟩) (numbP dl).length cap])) (w5.setCell ⟨w.heap.size, 0, none⟩ (.slice (some ⟨g, 0, none⟩) (numbP dl).length cap)) by
            have hgw := hrow.lt
            unfold MadeR madeD
            rw [Hdl.out]
            refine ⟨g, cap, V, rfl, (HWB.out.trans (hb5.mono (by omega))).setCell (p := ⟨w.heap.size, 0, none⟩) (Nat.le_refl _) _, by omega, hrow.keep (Below.heap_setCell _ _ _ _ (by show g ≠ w.heap.size; omega)), fun i f hi => ⟨(hparts i f hi).1.keep (fun b hb => ⟨by rcases hb.1 with h | h; have := h.1; omega; omega, by rw [size_set]; rcases hb.1 with h | h; have := h.2; omega; exact h.2, hb.2⟩) fun b q hb => cell_set_ne (by show b ≠ w.heap.size; rcases hb.1 with h | h; have := h.1; omega; omega), (hparts i f hi).2⟩⟩)
          clear hb5 hrow hparts B0 c3
          go_wp2_with fail
          refine bodyPost_ret (v := .agg #[.slice (some ⟨g, 0, none⟩) (numbP dl).length cap]) (by simp [results, Tryd.results33, go_sem, q1]) rfl ?_
          exact HP.out
end Go.Proofs.YthiilnhiihfknaaDoor

namespace Go.Proofs.YthiilnhiihfknaaDoor
open Go Go.RowKit

/-! ### plain laws -/
theorem numb_er (k : Nat) : ∀ (l : List St) (n0 m : Nat), vis FA k l n0 = some m → n0 ≤ 200 → (numbL k l n0).1.map erS = l.map erS := by
  induction k with
  | zero =>
    intro l n0 m h _
    have : l = [] := by unfold vis at h; split at h; assumption; cases h
    subst this; rfl
  | succ k ih =>
    intro l n0 m h h0
    have key : ∀ i, i ≤ l.length → ∀ n, (l.take i).foldlM (visS FA k) n0 = some n → (numbPre k l n0 i).1.map erS = (l.take i).map erS := by
      intro i
      induction i with
      | zero => intro _ _ _; rfl
      | succ i ih2 =>
        intro hi n hn
        have hfs := fold_snoc (F := FA) (k := k) (n0 := n0) (show i < l.length by omega)
        rw [hn] at hfs
        cases hq : (l.take i).foldlM (visS FA k) n0 with
        | none => rw [hq] at hfs; cases hfs
        | some q =>
          obtain ⟨a, b, h200, hF, hb1, hb2, hn2, ha2, hbb2⟩ := vis_at h h0 (show i < l.length by omega) hq
          rw [numbPre_succ (show i < l.length by omega), List.map_append, ih2 (by omega) q hq, List.take_succ_eq_append_getElem (show i < l.length by omega), List.map_append]
          congr 1
          have hpn := pre_vis FA k l i n0 q hq
          have e1 := ih l[i].body (q + 1) a hb1 (by omega)
          have e2 := ih l[i].els a b hb2 (by omega)
          have e3 : (numbL k l[i].body ((q : Int) + 1)).2 = a := by have := numb_vis FA k l[i].body (q + 1) a hb1; simpa using this
          simp only [List.map_cons, List.map_nil, List.cons.injEq, and_true]
          rw [erS_eq, erS_eq, hpn]
          simp only [numbSt]
          rw [e3]
          have e1' : (numbL k l[i].body ((q : Int) + 1)).1.map erS = l[i].body.map erS := by simpa using e1
          rw [e1', e2]
    obtain ⟨n, hn⟩ : ∃ n, (l.take l.length).foldlM (visS FA k) n0 = some n := by rw [List.take_length, ← vis_succ]; exact ⟨m, h⟩
    have := key l.length (Nat.le_refl _) n hn
    rw [List.take_length] at this
    rw [← this]
    unfold numbPre
    rw [List.take_length, numbL]
theorem fnB_vis {f : Fn} (h : fnB f = true) : ∃ m, vis FA 20 f.body 0 = some m ∧ m ≤ 200 := by
  simp only [fnB, Bool.and_eq_true] at h
  obtain ⟨m, hm⟩ := Option.isSome_iff_exists.1 h.2
  exact ⟨m, hm, (vis_bounds FA 20 f.body 0 m hm (by omega)).2⟩
theorem numbF_er {f : Fn} (h : fnB f = true) : erF (numbF f) = erF f := by
  obtain ⟨m, hm, _⟩ := fnB_vis h
  have := numb_er 20 f.body 0 m hm (by omega)
  unfold erF numbF
  simp only [Fn.mk.injEq, true_and, and_true]
  simpa using this
theorem numbF_len {f : Fn} (h : fnB f = true) : (numbF f).body.length = f.body.length := by
  have := erF_body (numbF_er h)
  simpa using congrArg List.length this
theorem numbP_er {l : List Fn} (h : fnsB l = true) : (numbP l).map erF = l.map erF := by
  unfold numbP
  rw [if_pos h, List.map_map]
  apply List.map_congr_left
  intro f hf
  simp only [fnsB, Bool.and_eq_true, List.all_eq_true] at h
  exact numbF_er (h.2 f hf)
theorem samePr_eq {a b : List Fn} (ha : checkB a = true) (hb : checkB b = true) : samePr a b = eqFl a b := by simp [samePr, ha, hb]
theorem samePr_refl {a : List Fn} (ha : checkB a = true) : samePr a a = true := by rw [samePr_eq ha ha]; simp [eqFl]
theorem eqFl_comm (a b : List Fn) : eqFl a b = eqFl b a := by
  unfold eqFl
  rw [decide_eq_decide]
  exact eq_comm
theorem eqFl_trans {a b c : List Fn} (h1 : eqFl a b = true) (h2 : eqFl b c = true) : eqFl a c = true := by
  simp only [eqFl, decide_eq_true_eq] at h1 h2 ⊢
  exact h1.trans h2
theorem eqFn_len {a b : Fn} (h : a.body.length ≠ b.body.length) : eqFn a b = false := by
  refine eqFn_not fun e => h ?_
  have := erF_body e
  simpa using congrArg List.length this
theorem madeD_check (l : Bytes) : checkB (madeD l) = true := checkB_numbP _
/-- With one statement less a program is another. -/
theorem same_cut {P : List Fn} {i : Nat} {f : Fn} (hi : i < P.length) (h : f.body.length ≠ P[i].body.length) : samePr P (numbP (P.set i f)) = false := by
  cases hf : fnsB (P.set i f) with
  | false =>
    have e : numbP (P.set i f) = [] := by simp [numbP, hf]
    rw [e]
    have : eqFl P [] = false := eqFl_len (show P.length ≠ 0 by omega)
    simp [samePr, this]
  | true =>
    have e := numbP_er hf
    have : eqFl P (numbP (P.set i f)) = false := by
      simp only [eqFl, decide_eq_false_iff_not]
      rw [e]
      intro e2
      have := congrArg (fun l => l[i]?) e2
      simp [hi] at this
      exact h (by simpa using (congrArg List.length (erF_body this)).symm)
    simp [samePr, this]

/-! ### a row of functions -/
structure PrAt (w : World) (g cap : Nat) (l : List Fn) (V : Nat → Value × Value) : Prop where
  row : RowAt w g 43 5 cap (rowsF l V)
  part : ∀ (i : Nat) f, l[i]? = some f → NewF w (fun b => b < w.heap.size ∧ b ≠ g) f (V i).1 (V i).2
  len : l.length ≤ 1000
  cap : ∀ (i : Nat) f, l[i]? = some f → CapOk (V i).2
section
variable {w w' : World} {g cap : Nat} {l : List Fn} {V : Nat → Value × Value}
theorem PrAt.fin (h : PrAt w g cap l V) : FIn w w.heap.size l (.slice (some ⟨g, 0, none⟩) l.length cap) := by
  have hl := h.len
  exact FR.of_row h.row h.row.lt (by omega) (fun i f hi => (h.part i f hi).ok) (fun i f hi => (h.part i f hi).p.keep (fun b hb => hb.1) fun _ _ _ => rfl) (fun i f hi => (h.part i f hi).b.keep (fun b hb => hb.1) fun _ _ _ => rfl)
theorem PrAt.bel (h : PrAt w g cap l V) (hb : Below w.heap.size w w') : PrAt w' g cap l V :=
  ⟨h.row.bel hb h.row.lt, fun i f hi => (h.part i f hi).keep (fun _ hb' => ⟨Nat.lt_of_lt_of_le hb'.1 hb.size, hb'.2⟩) fun _ _ hb' => hb.cell hb'.1, h.len, h.cap⟩
theorem PrAt.cells (h : PrAt w g cap l V) {i : Nat} {f : Fn} (hi : l[i]? = some f) : w.cell? ⟨g, i * 5, none⟩ = some (.string (B f.name)) ∧ w.cell? ⟨g, i * 5 + 1, none⟩ = some (V i).1 ∧ w.cell? ⟨g, i * 5 + 2, none⟩ = some (.int .i64 f.result) ∧ w.cell? ⟨g, i * 5 + 3, none⟩ = some (V i).2 ∧ w.cell? ⟨g, i * 5 + 4, none⟩ = some (.int .i64 f.count) := by
  have hr := rowsF_get (V := V) hi
  have c := fun (j : Nat) u hj => h.row.cell (j := j) (u := u) hr hj
  have c0 := c 0 _ rfl
  have c1 := c 1 _ rfl
  have c2 := c 2 _ rfl
  have c3 := c 3 _ rfl
  have c4 := c 4 _ rfl
  exact ⟨c0, c1, c2, c3, c4⟩
/-- Another body is stored. -/
theorem PrAt.setBody (h : PrAt w g cap l V) {i : Nat} {f : Fn} (hi : l[i]? = some f) {bd : List St} {vb : Value} (hb : SR w (fun b => b < w.heap.size ∧ b ≠ g) bd vb) (hvb : CapOk vb) :
    PrAt (w.setCell ⟨g, i * 5 + 3, none⟩ vb) g cap (l.set i { f with body := bd }) (fun j => if j = i then ((V i).1, vb) else V j) := by
  obtain ⟨hlt, he⟩ := List.getElem?_eq_some_iff.1 hi
  have hk : ∀ b q, (b < w.heap.size ∧ b ≠ g) → (w.setCell ⟨g, i * 5 + 3, none⟩ vb).cell? ⟨b, q, none⟩ = w.cell? ⟨b, q, none⟩ := fun b q hb => cell_set_ne hb.2
  refine ⟨?_, fun j x hj => ?_, by simpa using h.len, fun j x hj => ?_⟩
  · rw [rowsF_set _ _ _ hlt]
    exact h.row.set1 (rowsF_get hi) (by omega) vb
  · by_cases hji : j = i
    · subst hji
      rw [List.getElem?_set_self hlt] at hj
      cases hj
      simp only [if_true]
      have hp := h.part j f hi
      exact ⟨⟨hp.ok.name, hp.ok.result, hp.ok.count⟩, hp.p.keep (fun b hb => ⟨by rw [size_set]; exact hb.1, hb.2⟩) hk, hb.keep (fun b hb => ⟨by rw [size_set]; exact hb.1, hb.2⟩) hk⟩
    · rw [List.getElem?_set_ne (by omega)] at hj
      simp only [hji, if_false]
      exact (h.part j x hj).keep (fun b hb => ⟨by rw [size_set]; exact hb.1, hb.2⟩) hk
  · by_cases hji : j = i
    · simp only [hji, if_true]
      exact hvb
    · rw [List.getElem?_set_ne (by omega)] at hj
      simp only [hji, if_false]
      exact h.cap j x hj
end
theorem MadeR.at_ {l : Bytes} {w w' : World} {e : Ending} (h : MadeR l w e w') : ∃ (g cap : Nat) (V : Nat → Value × Value), e = .returned (.agg #[.slice (some ⟨g, 0, none⟩) (madeD l).length cap]) ∧ Below w.heap.size w w' ∧ w.heap.size ≤ g ∧ PrAt w' g cap (madeD l) V := by
  obtain ⟨g, cap, V, rfl, hb, hg, hr, hp⟩ := h
  exact ⟨g, cap, V, rfl, hb, hg, hr, fun i f hi => (hp i f hi).1.keep (fun b hb => ⟨hb.2.1, hb.2.2⟩) fun _ _ _ => rfl, by have := madeD_len l; omega, fun i f hi => (hp i f hi).2⟩
theorem DrIn.up {w w' : World} {l : Bytes} {v : Value} (h : DrIn w l v) (hb : Below w.heap.size w w') : DrIn w' l v := by
  obtain ⟨A, c, h1, h2, h3⟩ := h
  exact ⟨A, c, h1, h2, h3.keep (fun b hb' => Nat.lt_of_lt_of_le hb' hb.size) fun b q hb' => hb.cell hb'⟩
/-- The list behind its first statement. -/
theorem SR.tail {w : World} {R : Nat → Prop} {l : List St} {b o n c c' : Nat} (h : SR w R l (.slice (some ⟨b, o, none⟩) n c)) : SR w R l.tail (.slice (some ⟨b, o + 8, none⟩) (n - 1) c') := by
  cases h with
  | mk _ _ _ Va Vb Ve hlen hc ha hb he =>
    cases l with
    | nil => exact SR.nil _ _
    | cons s l =>
      have := SR.mk (w := w) (R := R) l (some ⟨b, o + 8, none⟩) c' (fun i => Va (i + 1)) (fun i => Vb (i + 1)) (fun i => Ve (i + 1)) (by simp at hlen; omega) (fun i x hi => ?_) (fun i x hi => ha (i + 1) x (by simpa using hi)) (fun i x hi => hb (i + 1) x (by simpa using hi)) (fun i x hi => he (i + 1) x (by simpa using hi))
      · simpa using this
      · obtain ⟨b', o', h1, h2, h3, h4⟩ := hc (i + 1) x (by simpa using hi)
        cases h1
        refine ⟨b, o + 8, rfl, h2, h3, ?_⟩
        rwa [show o + 8 + i * 8 = o + (i + 1) * 8 by omega]
theorem SR.one_none {w : World} {R : Nat → Prop} {l : List St} {A : Option Addr} {n c c' : Nat} {A' : Option Addr} (h : SR w R l (.slice A n c)) (hn : n = 1) : SR w R l.tail (.slice A' 0 c') := by
  obtain ⟨_, _, e⟩ := h.slice
  cases e
  have : l.tail = [] := List.eq_nil_of_length_eq_zero (by simp; omega)
  rw [this]
  exact SR.nil _ _
end Go.Proofs.YthiilnhiihfknaaDoor

namespace Go.Proofs.YthiilnhiihfknaaDoor
open Go Go.RowKit Go.ChangeShapes Go.WideShapes Go.ChangeAt

section
variable {H : Type} {enc : TypeId × Value → H} {w : World} {base : Nat} {spare : Nat → Bool} {held : Bool}
theorem byte_of {k : Int} (h : (Lit.int .u8 k).wf = true) : ∃ c : UInt8, (c.toNat : Int) = k := by
  have hb : 0 ≤ k ∧ k ≤ 255 := by simpa [Lit.wf, IntKind.min, IntKind.max, IntKind.signed, IntKind.bits] using h
  refine ⟨UInt8.ofNat k.toNat, ?_⟩
  rw [UInt8.toNat_ofNat']
  omega
theorem open_bytes (fuel : Nat) (cs : List Value) (x : DataW H × List MemPlace) (h : DataW.trod enc Tryd.prog w base spare held fuel 50 cs = some x) : ∃ l v, cs = [v] ∧ DrIn w l v := by
  rcases DataW.trod_slice Tryd.underlying50 h with ⟨rfl, _⟩ | ⟨a, len, cap, elems, rest, n, hf, rfl, _, hb, hl, hm, hlen, hel, _, _⟩
  · exact ⟨[], _, rfl, none, 0, rfl, by simp, none, 0, rfl, by simp, fun i e hi => by simp at hi⟩
  · have q8 : Tryd.prog.cellsOf 5 = 1 := by kernel_rfl
    rw [q8] at hel
    by_cases hz : len = 0
    · subst hz
      exact ⟨[], _, rfl, some a, cap, rfl, by simp, some a, cap, rfl, by simp, fun i e hi => by simp at hi⟩
    have one : ∀ i, i < len → ∃ c : UInt8, w.cell? ((a.add (i * 1)).add 0) = some (.int .u8 (c.toNat : Int)) := by
      intro i hi
      have h1 := hel i hi
      rw [List.getElem?_eq_getElem (by omega)] at h1
      obtain ⟨cs', hc, ht⟩ := Option.bind_eq_some_iff.1 h1
      obtain ⟨k, hk, _, wk⟩ := DataW.trod_int Tryd.underlying5 ht
      subst hk
      obtain ⟨c, hc'⟩ := byte_of wk
      obtain ⟨_, _, hcell⟩ := World.cells?_some hc
      exact ⟨c, by rw [hc']; exact hcell 0 (by decide)⟩
    obtain ⟨b, off, spot⟩ := a
    have hspot : spot = none := by
      obtain ⟨p, c0⟩ := one 0 (by omega)
      simpa [Addr.add] using World.cell?_spot c0
    subst hspot
    have each : ∀ i, ∃ c : UInt8, i < len → b < w.heap.size ∧ w.cell? ⟨b, off + i, none⟩ = some (.int .u8 (c.toNat : Int)) := by
      intro i
      by_cases hi : i < len
      · obtain ⟨c, c0⟩ := one i hi
        rw [add_plain, add_plain] at c0
        have e : off + i * 1 + 0 = off + i := by omega
        rw [e] at c0
        exact ⟨c, fun _ => ⟨World.block_lt_of_cell? _ _ c0, c0⟩⟩
      · exact ⟨0, fun h => absurd h hi⟩
    obtain ⟨E, hE⟩ := Classical.axiomOfChoice each
    unfold maxLen at hm
    have hlr : ((List.range len).map E).length = len := by simp
    refine ⟨(List.range len).map E, _, rfl, some ⟨b, off, none⟩, cap, by rw [hlr], by rw [hlr]; exact hl, some ⟨b, off, none⟩, cap, by rw [hlr], by rw [hlr]; omega, fun i e hi => ?_⟩
    have hi' := (List.getElem?_eq_some_iff.1 hi).1
    rw [hlr] at hi'
    rw [List.getElem?_map, List.getElem?_range hi'] at hi
    cases Option.some.inj hi
    obtain ⟨h1, h2⟩ := hE i hi'
    exact ⟨b, off, rfl, h1, h2⟩
set_option maxRecDepth 100000 in
theorem open_draft {r : Reach} {b0 : Nat} {v : Value} {d : DataW H} {p : List MemPlace} (hv : Value.okWide Tryd.prog w r b0 50 v) (h : DataW.Trod enc Tryd.prog w base spare held 50 v d p) : ∃ l, DrIn w l v := by
  obtain ⟨fuel, hf⟩ := h
  obtain ⟨l, v', hv', hD⟩ := open_bytes fuel _ _ hf
  obtain ⟨a, n, c, rfl⟩ := okWide_slice Tryd.underlying50 hv
  simp [Value.cells] at hv'
  subst hv'
  exact ⟨l, hD⟩
end
end Go.Proofs.YthiilnhiihfknaaDoor
