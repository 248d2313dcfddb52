/-
  ShapeDeep: the box of the statements' chain, turned round by round.
-/
import Derived.Test.YthiilnhiihfknaaDoorSDeepM
import Derived.Test.YthiilnhiihfknaaDoorSNumOk
import Derived.Deep.MidRow
namespace Go.Proofs.YthiilnhiihfknaaDoor
open Go Go.RowKit

theorem bits_one : ∀ y : Nat, y < 256 → bits BinOp.and IntKind.u8 (y : Int) 1 = ((y % 2 : Nat) : Int) := by decide +kernel
theorem okE_one (n : Int) (h1 : 0 ≤ n) (h2 : n ≤ 9223372036854775807) : OkE (one1 n) := ⟨by simp [one1, okI], by simp [one1, okI], by simp only [one1, okI]; omega, by simp [one1]⟩
theorem okS_sD (how : Nat) : ∀ i, OkS (sD how i) := by
  intro i
  cases i with
  | zero => exact ⟨by simp [sD, okI], by simp [sD, okI], by simp [sD, okI], by simp [sD], by simp [sD]⟩
  | succ i =>
    show OkS (sN how (i + 1) (sD how i))
    unfold sN
    split <;> exact ⟨by simp [okI], by simp [okI], by simp [okI], by simp, by simp⟩
abbrev st8 (w : World) (b : Nat) (s : St) (va vb ve : Value) : World := (((((((w.setCell ⟨b, 0, none⟩ (.int .i64 s.kind)).setCell ⟨b, 1, none⟩ (.int .i64 s.no)).setCell ⟨b, 2, none⟩ (.string (B s.name))).setCell ⟨b, 3, none⟩ (.int .i64 s.typ)).setCell ⟨b, 4, none⟩ (.string (B s.callee))).setCell ⟨b, 5, none⟩ va).setCell ⟨b, 6, none⟩ vb).setCell ⟨b, 7, none⟩ ve
theorem st8_size (w : World) (b : Nat) (s : St) (va vb ve : Value) : (st8 w b s va vb ve).heap.size = w.heap.size := by simp only [st8, size_set]
theorem st8_cell (w : World) (b : Nat) (s : St) (va vb ve : Value) {x q : Nat} (h : x ≠ b) : (st8 w b s va vb ve).cell? ⟨x, q, none⟩ = w.cell? ⟨x, q, none⟩ := by
  simp only [st8]
  rw [cell_set_ne h, cell_set_ne h, cell_set_ne h, cell_set_ne h, cell_set_ne h, cell_set_ne h, cell_set_ne h, cell_set_ne h]
theorem st8_below {w w' : World} {M b : Nat} (h : Below M w w') (hb : M ≤ b) (s : St) (va vb ve : Value) : Below M w (st8 w' b s va vb ve) :=
  (((((((h.setCell hb _).setCell hb _).setCell hb _).setCell hb _).setCell hb _).setCell hb _).setCell hb _).setCell hb _
theorem st8_row {w : World} {b : Nat} {s : St} {va vb ve : Value} (h : RowAt w b 46 8 1 [sC s va vb ve]) (s' : St) (va' vb' ve' : Value) : RowAt (st8 w b s' va' vb' ve') b 46 8 1 [sC s' va' vb' ve'] :=
  RowAt.set8 h (i := 0) (r := sC s va vb ve) rfl _ _ _ _ _ _ _ _
/-- Block b is the box of s, whose parts lie elsewhere. -/
def StI (b : Nat) (s : St) (w : World) (va vb ve : Value) : Prop :=
  RowAt w b 46 8 1 [sC s va vb ve] ∧ ER w (fun x => x < w.heap.size ∧ x ≠ b) s.args va ∧ SR w (fun x => x < w.heap.size ∧ x ≠ b) s.body vb ∧ SR w (fun x => x < w.heap.size ∧ x ≠ b) s.els ve
theorem ER.one' {w : World} {R : Nat → Prop} {g c : Nat} {e : Ex} {v : Value} (hg : R g) (ho : OkE e) (h : EBox w g e v) (hs : ER w R e.args v) : ER w R [e] (.slice (some ⟨g, 0, none⟩) 1 c) := by
  obtain ⟨c0, c1, c2, c3, c4⟩ := h
  refine .mk [e] (some ⟨g, 0, none⟩) c (fun _ => v) (by simp) (fun i x hx => ?_) (fun i x hx => ?_)
  · cases i with
    | zero => simp at hx; subst hx; exact ⟨g, 0, rfl, hg, ho, ⟨c0, c1, c2, c3, c4⟩⟩
    | succ i => simp at hx
  · cases i with
    | zero => simp at hx; subst hx; exact hs
    | succ i => simp at hx
theorem SR.one {w : World} {R : Nat → Prop} {b c : Nat} {s : St} {va vb ve : Value} (hb : R b) (ho : OkS s) (h : SBox w b s va vb ve) (ha : ER w R s.args va) (hbo : SR w R s.body vb) (he : SR w R s.els ve) : SR w R [s] (.slice (some ⟨b, 0, none⟩) 1 c) := by
  obtain ⟨c0, c1, c2, c3, c4, c5, c6, c7⟩ := h
  refine .mk [s] (some ⟨b, 0, none⟩) c (fun _ => va) (fun _ => vb) (fun _ => ve) (by simp) (fun i x hx => ?_) (fun i x hx => ?_) (fun i x hx => ?_) (fun i x hx => ?_)
  all_goals
    cases i with
    | succ i => simp at hx
    | zero =>
      simp at hx
      subst hx
      first | exact ⟨b, 0, rfl, hb, ho, ⟨c0, c1, c2, c3, c4, c5, c6, c7⟩⟩ | exact ha | exact hbo | exact he
/-- The parts of the next statement. -/
def NextOf (s s' : St) (ga gs : Nat) (va' vb' ve' : Value) : Prop :=
  s'.args = [one1 1] ∧ va' = .slice (some ⟨ga, 0, none⟩) 1 1 ∧ ((s'.body = [s] ∧ vb' = .slice (some ⟨gs, 0, none⟩) 1 1 ∧ s'.els = [] ∧ ve' = .slice none 0 0) ∨ (s'.body = [] ∧ vb' = .slice none 0 0 ∧ s'.els = [s] ∧ ve' = .slice (some ⟨gs, 0, none⟩) 1 1))
theorem st_fin {b ga gs : Nat} {wr W : World} {s s' : St} {va vb ve va' vb' ve' : Value} (hs : StI b s wr va vb ve) (ho : OkS s) (hk : ∀ x q, x < wr.heap.size → x ≠ b → W.cell? ⟨x, q, none⟩ = wr.cell? ⟨x, q, none⟩) (hz : wr.heap.size ≤ W.heap.size)
    (hrow : RowAt W b 46 8 1 [sC s' va' vb' ve']) (hga : ga < W.heap.size) (hga' : ga ≠ b) (hA : EBox W ga (one1 1) (.slice none 0 0)) (hgs : gs < W.heap.size) (hgs' : gs ≠ b) (hS : SBox W gs s va vb ve) (hn : NextOf s s' ga gs va' vb' ve') : StI b s' W va' vb' ve' := by
  obtain ⟨_, h1, h2, h3⟩ := hs
  have kR : ∀ x, (x < wr.heap.size ∧ x ≠ b) → (x < W.heap.size ∧ x ≠ b) := fun x hx => ⟨by omega, hx.2⟩
  have g1 := h1.keep kR fun x q hx => hk x q hx.1 hx.2
  have g2 := h2.keep kR fun x q hx => hk x q hx.1 hx.2
  have g3 := h3.keep kR fun x q hx => hk x q hx.1 hx.2
  have e1 : ER W (fun x => x < W.heap.size ∧ x ≠ b) [one1 1] (.slice (some ⟨ga, 0, none⟩) 1 1) := ER.one' ⟨hga, hga'⟩ (okE_one 1 (by omega) (by omega)) hA (ER.nil _ _)
  have e2 : SR W (fun x => x < W.heap.size ∧ x ≠ b) [s] (.slice (some ⟨gs, 0, none⟩) 1 1) := SR.one ⟨hgs, hgs'⟩ ho hS g1 g2 g3
  obtain ⟨q1, q2, q3⟩ := hn
  refine ⟨hrow, by rw [q1, q2]; exact e1, ?_, ?_⟩
  · rcases q3 with ⟨r1, r2, _, _⟩ | ⟨r1, r2, _, _⟩
    · rw [r1, r2]; exact e2
    · rw [r1, r2]; exact SR.nil _ _
  · rcases q3 with ⟨_, _, r1, r2⟩ | ⟨_, _, r1, r2⟩
    · rw [r1, r2]; exact SR.nil _ _
    · rw [r1, r2]; exact e2
section
variable {w0 wr w3 : World} {b M : Nat} {s s' : St} {va vb ve va' vb' ve' : Value} (hs : StI b s wr va vb ve) (ho : OkS s) (hW : Below M w0 wr) (hM : M ≤ b) (hb : b + 1 ≤ wr.heap.size)
include hs ho hW hM hb
theorem st_A (h3 : Below wr.heap.size wr w3) (hn : NextOf s s' w3.heap.size (w3.heap.size + 1) va' vb' ve') :
    let W := ((st8 w3 b s' va' vb' ve').alloc (eO (one1 1) (.slice none 0 0))).alloc (sO s va vb ve)
    StI b s' W va' vb' ve' ∧ Below M w0 W ∧ b + 1 ≤ W.heap.size := by
  intro W
  have hz := st8_size w3 b s' va' vb' ve'
  have h3z := h3.size
  have hzW : W.heap.size = w3.heap.size + 2 := by show (World.alloc _ _).heap.size = _; rw [sz1, sz1, hz]
  have e := EBox.new (st8 w3 b s' va' vb' ve') (one1 1) (.slice none 0 0)
  rw [hz] at e
  have t := SBox.new ((st8 w3 b s' va' vb' ve').alloc (eO (one1 1) (.slice none 0 0))) s va vb ve
  rw [sz1, hz] at t
  have hB := (bal2 (st8 w3 b s' va' vb' ve') (eO (one1 1) (.slice none 0 0)) (sO s va vb ve))
  rw [hz] at hB
  refine ⟨st_fin hs ho (fun x q hx hne => ?_) (by omega) ((st8_row (hs.1.bel h3 (by omega)) s' va' vb' ve').bel hB (by omega)) (by omega) (by omega) (e.keep (bal _ _) (by rw [sz1, hz]; omega)) (by omega) (by omega) t hn, (st8_below (hW.trans (h3.mono (by omega))) hM s' va' vb' ve').trans (hB.mono (by omega)), by omega⟩
  exact (hB.cell (p := ⟨x, q, none⟩) (by show x < w3.heap.size; omega)).trans ((st8_cell w3 b s' va' vb' ve' hne).trans (h3.cell (p := ⟨x, q, none⟩) hx))
theorem st_B (h3 : Below wr.heap.size wr w3) (hn : NextOf s s' (w3.heap.size + 1) w3.heap.size va' vb' ve') :
    let W := ((st8 w3 b s' va' vb' ve').alloc (sO s va vb ve)).alloc (eO (one1 1) (.slice none 0 0))
    StI b s' W va' vb' ve' ∧ Below M w0 W ∧ b + 1 ≤ W.heap.size := by
  intro W
  have hz := st8_size w3 b s' va' vb' ve'
  have h3z := h3.size
  have hzW : W.heap.size = w3.heap.size + 2 := by show (World.alloc _ _).heap.size = _; rw [sz1, sz1, hz]
  have t := SBox.new (st8 w3 b s' va' vb' ve') s va vb ve
  rw [hz] at t
  have e := EBox.new ((st8 w3 b s' va' vb' ve').alloc (sO s va vb ve)) (one1 1) (.slice none 0 0)
  rw [sz1, hz] at e
  have hB := (bal2 (st8 w3 b s' va' vb' ve') (sO s va vb ve) (eO (one1 1) (.slice none 0 0)))
  rw [hz] at hB
  refine ⟨st_fin hs ho (fun x q hx hne => ?_) (by omega) ((st8_row (hs.1.bel h3 (by omega)) s' va' vb' ve').bel hB (by omega)) (by omega) (by omega) e (by omega) (by omega) (t.keep (bal _ _) (by rw [sz1, hz]; omega)) hn, (st8_below (hW.trans (h3.mono (by omega))) hM s' va' vb' ve').trans (hB.mono (by omega)), by omega⟩
  exact (hB.cell (p := ⟨x, q, none⟩) (by show x < w3.heap.size; omega)).trans ((st8_cell w3 b s' va' vb' ve' hne).trans (h3.cell (p := ⟨x, q, none⟩) hx))
theorem st_C (h3 : Below (wr.heap.size + 1) (wr.alloc (sO s va vb ve)) w3) (hn : NextOf s s' w3.heap.size wr.heap.size va' vb' ve') :
    let W := (st8 w3 b s' va' vb' ve').alloc (eO (one1 1) (.slice none 0 0))
    StI b s' W va' vb' ve' ∧ Below M w0 W ∧ b + 1 ≤ W.heap.size := by
  intro W
  have hz := st8_size w3 b s' va' vb' ve'
  have h3z : wr.heap.size + 1 ≤ w3.heap.size := by have := h3.size; rw [sz1] at this; exact this
  have h3' : Below wr.heap.size wr w3 := (bal wr (sO s va vb ve)).trans (h3.mono (by omega))
  have hzW : W.heap.size = w3.heap.size + 1 := by show (World.alloc _ _).heap.size = _; rw [sz1, hz]
  have e := EBox.new (st8 w3 b s' va' vb' ve') (one1 1) (.slice none 0 0)
  rw [hz] at e
  have hB := (bal (st8 w3 b s' va' vb' ve') (eO (one1 1) (.slice none 0 0)))
  rw [hz] at hB
  have t0 := (SBox.new wr s va vb ve).keep h3 (by omega)
  have t : SBox W wr.heap.size s va vb ve := by
    obtain ⟨c0, c1, c2, c3, c4, c5, c6, c7⟩ := t0
    have k := fun q => (hB.cell (p := ⟨wr.heap.size, q, none⟩) (by show wr.heap.size < w3.heap.size; omega)).trans (st8_cell w3 b s' va' vb' ve' (x := wr.heap.size) (q := q) (by omega))
    exact ⟨(k 0).trans c0, (k 1).trans c1, (k 2).trans c2, (k 3).trans c3, (k 4).trans c4, (k 5).trans c5, (k 6).trans c6, (k 7).trans c7⟩
  refine ⟨st_fin hs ho (fun x q hx hne => ?_) (by omega) ((st8_row (hs.1.bel h3' (by omega)) s' va' vb' ve').bel hB (by omega)) (by omega) (by omega) e (by omega) (by omega) t hn, (st8_below (hW.trans (h3'.mono (by omega))) hM s' va' vb' ve').trans (hB.mono (by omega)), by omega⟩
  exact (hB.cell (p := ⟨x, q, none⟩) (by show x < w3.heap.size; omega)).trans ((st8_cell w3 b s' va' vb' ve' hne).trans (h3'.cell (p := ⟨x, q, none⟩) hx))
end
/-- A function on its own in a new block. -/
theorem FIn.fresh {w : World} {g : Nat} {f : Fn} {vp vb : Value} {c : Nat} (hg : g = w.heap.size) (ho : OkF f) (hp : PIn w w.heap.size f.params vp) (hb : SIn w w.heap.size f.body vb) : FIn (w.alloc (fO f vp vb)) (w.alloc (fO f vp vb)).heap.size [f] (.slice (some ⟨g, 0, none⟩) 1 c) := by
  subst hg
  obtain ⟨c0, c1, c2, c3, c4⟩ := FBox.new w f vp vb
  refine ⟨_, c, rfl, by simp, fun i x hx => ?_⟩
  cases i with
  | succ i => simp at hx
  | zero =>
    simp at hx
    subst hx
    exact ⟨w.heap.size, 0, vp, vb, rfl, by simp, ho, ⟨c0, c1, c2, c3, c4⟩, hp.al _, hb.al _⟩
/-- What is known of e's box, s's box, p's box. -/
structure DF (bE bS bP : Nat) (e : Ex) (v : Value) (s : St) (va vb ve : Value) (l : List Fn) (vp : Value) (W : World) : Prop where
  g : Glob W
  x : RowAt W bE 24 5 1 [eC e v]
  xa : EIn W W.heap.size e.args v
  y : RowAt W bS 46 8 1 [sC s va vb ve]
  ya : EIn W W.heap.size s.args va
  yb : SIn W W.heap.size s.body vb
  ye : SIn W W.heap.size s.els ve
  p : W.heap[bP]? = some (.cells #[vp] 35 (0, 0))
  f : FIn W W.heap.size l vp
theorem DF.up {bE bS bP : Nat} {e : Ex} {v : Value} {s : St} {va vb ve : Value} {l : List Fn} {vp : Value} {W W' : World} (h : DF bE bS bP e v s va vb ve l vp W) (hb : Below W.heap.size W W') : DF bE bS bP e v s va vb ve l vp W' :=
  ⟨h.g.up hb, h.x.bel hb h.x.lt, h.xa.up hb, h.y.bel hb h.y.lt, h.ya.up hb, h.yb.up hb, h.ye.up hb, (hb.block bP (lt_of_block h.p)).trans h.p, h.f.up hb⟩
/-! ### two hundred statements -/
def zS : St := ⟨0, 0, [], 0, [], [], [], []⟩
def oS : St := ⟨8, 0, [], 0, [], [], [], []⟩
def Vn : Nat → Value × Value × Value := fun _ => (.slice none 0 0, .slice none 0 0, .slice none 0 0)
def midO (i : Nat) : List St := List.replicate i oS ++ List.replicate (201 - i) zS
theorem midO_get {i : Nat} (h : i < 201) : (midO i)[i]? = some zS := by
  unfold midO
  rw [List.getElem?_append_right (by simp), List.length_replicate, Nat.sub_self, List.getElem?_replicate, if_pos (by omega)]
theorem midO_succ {i : Nat} (h : i < 201) : midO (i + 1) = (midO i).set i oS := by
  unfold midO
  rw [List.set_append_right _ _ (by simp), List.length_replicate, Nat.sub_self, show 201 - i = (201 - (i + 1)) + 1 by omega, List.replicate_succ (n := 201 - (i + 1)), List.set_cons_zero, List.replicate_succ' (n := i)]
  simp
theorem made_rows : (madeCells (Value.agg #[.int .i64 0, .int .i64 0, .string ⟨#[]⟩, .int .i64 0, .string ⟨#[]⟩, .slice none 0 0, .slice none 0 0, .slice none 0 0]).cells (201 * 8)).toList = (rowsS (midO 0) Vn).flatten := by
  apply List.ext_getElem?
  intro q
  have hlen : (rowsS (midO 0) Vn).length = 201 := by rw [rowsS_len]; unfold midO; rw [List.length_append, List.length_replicate, List.length_replicate]
  by_cases hq : q < 1608
  · have hd : (q / 8) * 8 + q % 8 = q := by omega
    have hm : (midO 0)[q / 8]? = some zS := by
      unfold midO
      rw [List.getElem?_append_right (by rw [List.length_replicate]; omega), List.length_replicate, List.getElem?_replicate, if_pos (by omega)]
    have hr := rowsS_get (V := Vn) hm
    have h1 := flat_get (rowsS_sz (midO 0) Vn) (q / 8) (q % 8) (by omega)
    rw [hd, hr] at h1
    rw [h1, Array.getElem?_toList]
    have h8 : q % 8 < 8 := by omega
    have h2 : (madeCells (Value.agg #[.int .i64 0, .int .i64 0, .string ⟨#[]⟩, .int .i64 0, .string ⟨#[]⟩, .slice none 0 0, .slice none 0 0, .slice none 0 0]).cells (201 * 8))[q]? = some ((Value.agg #[.int .i64 0, .int .i64 0, .string ⟨#[]⟩, .int .i64 0, .string ⟨#[]⟩, .slice none 0 0, .slice none 0 0, .slice none 0 0]).cells[q % 8]!) := by
      rw [madeCells, Array.getElem?_map, Array.getElem?_range, if_pos (by omega)]
      rfl
    rw [h2]
    generalize q % 8 = r at *
    clear h1 h2 hr hm hd hq hlen
    match r, h8 with
    | 0, _ => rfl
    | 1, _ => rfl
    | 2, _ => rfl
    | 3, _ => rfl
    | 4, _ => rfl
    | 5, _ => rfl
    | 6, _ => rfl
    | 7, _ => rfl
  · rw [List.getElem?_eq_none (by rw [Array.length_toList, size_madeCells]; omega), List.getElem?_eq_none (by rw [flat_len (rowsS_sz (midO 0) Vn), hlen]; omega)]
theorem midO_full : midO 201 = List.replicate 201 oS := by unfold midO; rw [Nat.sub_self, List.replicate_zero, List.append_nil]
abbrev ch8 (w : World) (g i : Nat) : World := ((((((((w.setCell ⟨g, i * 8, none⟩ (.int .i64 8)).setCell ⟨g, i * 8 + 1, none⟩ (.int .i64 0)).setCell ⟨g, i * 8 + 2, none⟩ (.string ⟨#[]⟩)).setCell ⟨g, i * 8 + 3, none⟩ (.int .i64 0)).setCell ⟨g, i * 8 + 4, none⟩ (.string ⟨#[]⟩)).setCell ⟨g, i * 8 + 5, none⟩ (.slice none 0 0)).setCell ⟨g, i * 8 + 6, none⟩ (.slice none 0 0)).setCell ⟨g, i * 8 + 7, none⟩ (.slice none 0 0))
abbrev o8 : Array Value := #[.int .i64 8, .int .i64 0, .string ⟨#[]⟩, .int .i64 0, .string ⟨#[]⟩, .slice none 0 0, .slice none 0 0, .slice none 0 0]
theorem o8_one : o8.all (·.oneCell') = true := all_oneCell_toArray (cs := [.int .i64 8, .int .i64 0, .string ⟨#[]⟩, .int .i64 0, .string ⟨#[]⟩, .slice none 0 0, .slice none 0 0, .slice none 0 0]) (by
  intro v hv
  simp only [List.mem_cons, List.not_mem_nil, or_false] at hv
  rcases hv with rfl | rfl | rfl | rfl | rfl | rfl | rfl | rfl <;> rfl)
theorem setCells_ch8 (w : World) (g i : Nat) : w.setCells g (i * 8) o8.toList = ch8 w g i := rfl
theorem midO_there {w : World} {g i : Nat} (h : i < 201) (hr : RowAt w g 46 8 201 (rowsS (midO i) Vn)) : w.there g (i * 8) 8 := by
  intro j hj
  have hge : ∀ l : List St, l[i]? = some zS → (rowsS l Vn)[i]? = some (sC zS (.slice none 0 0) (.slice none 0 0) (.slice none 0 0)) := fun l hl => rowsS_get (V := Vn) hl
  have hm : (midO i)[i]? = some zS := by
    unfold midO
    rw [List.getElem?_append_right (by simp), List.length_replicate, Nat.sub_self, List.getElem?_replicate, if_pos (by omega)]
  have hj2 : ∃ u, (sC zS (.slice none 0 0) (.slice none 0 0) (.slice none 0 0))[j]? = some u := ⟨_, List.getElem?_eq_getElem (by simpa [sC] using hj)⟩
  obtain ⟨u, hu⟩ := hj2
  exact ⟨by rw [hr.cell (hge _ hm) hu]; rfl, hr.free _⟩
theorem ch8_heap (w : World) (g i : Nat) {b : Nat} (hb : b ≠ g) : (ch8 w g i).heap[b]? = w.heap[b]? := by
  simp only [ch8]
  rw [Below.heap_setCell _ _ _ b hb, Below.heap_setCell _ _ _ b hb, Below.heap_setCell _ _ _ b hb, Below.heap_setCell _ _ _ b hb, Below.heap_setCell _ _ _ b hb, Below.heap_setCell _ _ _ b hb, Below.heap_setCell _ _ _ b hb, Below.heap_setCell _ _ _ b hb]
theorem ch8_below {w0 w : World} {M : Nat} (h : Below M w0 w) (g i : Nat) (hg : M ≤ g) : Below M w0 (ch8 w g i) :=
  (((((((h.setCell hg _).setCell hg _).setCell hg _).setCell hg _).setCell hg _).setCell hg _).setCell hg _).setCell hg _
theorem midO_step {w : World} {g i : Nat} (h : i < 201) (hr : RowAt w g 46 8 201 (rowsS (midO i) Vn)) :
    RowAt (ch8 w g i) g 46 8 201 (rowsS (midO (i + 1)) Vn) := by
  have hl : i < (midO i).length := (List.getElem?_eq_some_iff.1 (midO_get h)).1
  have e := rowsS_set (l := midO i) (V := Vn) oS (.slice none 0 0) (.slice none 0 0) (.slice none 0 0) hl
  rw [show (fun j => if j = i then ((Value.slice none 0 0 : Value), (Value.slice none 0 0 : Value), (Value.slice none 0 0 : Value)) else Vn j) = Vn from funext fun j => by simp [Vn]] at e
  rw [midO_succ h, e]
  exact RowAt.set8 hr (rowsS_get (midO_get h)) _ _ _ _ _ _ _ _
theorem SIn_rep {w : World} {g : Nat} (n : Nat) (hn : n ≤ 201) (h : RowAt w g 46 8 201 (rowsS (midO 201) Vn)) : SIn w w.heap.size (List.replicate n oS) (.slice (some ⟨g, 0, none⟩) n 201) := by
  have hk : ∀ i s, (List.replicate n oS)[i]? = some s → s = oS ∧ (rowsS (midO 201) Vn)[i]? = some (sC oS (.slice none 0 0) (.slice none 0 0) (.slice none 0 0)) := fun i s hi => by
    rw [List.getElem?_replicate] at hi
    split at hi
    · cases hi
      exact ⟨rfl, rowsS_get (V := Vn) (show (midO 201)[i]? = some oS by rw [midO_full, List.getElem?_replicate, if_pos (by omega)])⟩
    · cases hi
  have := SR.mk (w := w) (R := fun b => b < w.heap.size) (List.replicate n oS) (some ⟨g, 0, none⟩) 201 (fun _ => .slice none 0 0) (fun _ => .slice none 0 0) (fun _ => .slice none 0 0) (by simp; omega) (fun i s hi => by
      obtain ⟨rfl, hr⟩ := hk i s hi
      have c := fun j u hj => h.cell (j := j) (u := u) hr hj
      refine ⟨g, 0, rfl, h.lt, ⟨by simp [oS, okI], by simp [oS, okI], by simp [oS, okI], by simp [oS], by simp [oS]⟩, ?_⟩
      rw [Nat.zero_add]
      exact ⟨c 0 _ rfl, c 1 _ rfl, c 2 _ rfl, c 3 _ rfl, c 4 _ rfl, c 5 _ rfl, c 6 _ rfl, c 7 _ rfl⟩) (fun i s hi => by obtain ⟨rfl, _⟩ := hk i s hi; exact ER.nil _ _) (fun i s hi => by obtain ⟨rfl, _⟩ := hk i s hi; exact SR.nil _ _) (fun i s hi => by obtain ⟨rfl, _⟩ := hk i s hi; exact SR.nil _ _)
  rwa [List.length_replicate] at this
abbrev fAll : Fn := ⟨[102], [], 0, List.replicate 200 oS, 0⟩
abbrev fMany : Fn := ⟨[102], [], 0, List.replicate 201 oS, 0⟩
theorem numbP_all : numbP [fAll] = [numbF fAll] ∧ (numbF fAll).count = 200 := by
  have h : fnsB [fAll] = true := by decide +kernel
  exact ⟨by simp [numbP, h], by decide +kernel⟩
theorem numbP_many : numbP [fMany] = [] := by
  have h : fnsB [fMany] = false := by decide +kernel
  simp [numbP, h]
abbrev fnO (g n : Nat) : Obj := .cells #[.string ⟨#[102]⟩, .slice none 0 0, .int .i64 0, .slice (some ⟨g, 0, none⟩) n 201, .int .i64 0] 43
def N200 (W : World) (e : Ending) (w' : World) : Prop := ∃ (b o c : Nat) (l : List Fn), e = .returned (.agg #[.slice (some ⟨b, o, none⟩) 1 c]) ∧ Below W.heap.size W w' ∧ w'.cell? ⟨b, o + 4, none⟩ = some (.int .i64 200) ∧ b < w'.heap.size ∧ checkB l = true ∧ FIn w' w'.heap.size l (.slice (some ⟨b, o, none⟩) 1 c)
theorem number_200 {w : World} {g : Nat} (hr : RowAt w g 46 8 201 (rowsS (midO 201) Vn)) (hG : Glob w) :
    Calls Tryd.prog 22 #[.agg #[.slice (some ⟨w.heap.size, 0, none⟩) 1 1]] (w.alloc (fnO g 200)) (N200 (w.alloc (fnO g 200))) := by
  have hF : FIn (w.alloc (fnO g 200)) (w.alloc (fnO g 200)).heap.size [fAll] (.slice (some ⟨w.heap.size, 0, none⟩) 1 1) := FIn.fresh (f := fAll) (vp := .slice none 0 0) rfl ⟨by simp, by simp [okI], by simp [okI]⟩ (PR.nil _ _) (SIn_rep 200 (by omega) hr)
  refine (number_all [fAll] _ _ hF (hG.al _)).mono ?_
  intro e w' hN
  have h1 := numbP_all.1
  have h2 := numbP_all.2
  have h3 := checkB_numbP [fAll]
  obtain ⟨v, he, hb, hf⟩ := hN.fr (by rw [h1]; simp)
  rw [h1] at h3 hf
  generalize numbF fAll = fa at *
  obtain ⟨A, c, rfl⟩ := hf.slice
  have hfi : FIn w' w'.heap.size [fa] (.slice A 1 c) := FR.keep hf (fun x h => h.2) fun _ _ _ => rfl
  obtain ⟨b, o, vp, vb, hA, hR, _, hc, _, _⟩ := hfi.at_ 0 (by simp)
  subst hA
  have h4 := hc.c4
  simp only [Nat.zero_mul, Nat.add_zero, List.getElem_cons_zero] at h4
  rw [h2] at h4
  exact ⟨b, o, c, [fa], he, hb, h4, hR, h3, hfi⟩
def N201 (W : World) (e : Ending) (w' : World) : Prop := ∃ (A : Option Addr) (c : Nat), e = .returned (.agg #[.slice A 0 c]) ∧ Below W.heap.size W w'
theorem number_201 {w : World} {g : Nat} (H : Nat) (hH : w.heap.size = H) (hr : RowAt w g 46 8 201 (rowsS (midO 201) Vn)) (hG : Glob w) :
    Calls Tryd.prog 22 #[.agg #[.slice (some ⟨H, 0, none⟩) 1 1]] (w.alloc (fnO g 201)) (N201 (w.alloc (fnO g 201))) := by
  subst hH
  have hF : FIn (w.alloc (fnO g 201)) (w.alloc (fnO g 201)).heap.size [fMany] (.slice (some ⟨w.heap.size, 0, none⟩) 1 1) := FIn.fresh (f := fMany) (vp := .slice none 0 0) rfl ⟨by simp, by simp [okI], by simp [okI]⟩ (PR.nil _ _) (SIn_rep 201 (by omega) hr)
  refine (number_all [fMany] _ _ hF (hG.al _)).mono ?_
  intro e w' hN
  have h1 := numbP_many
  obtain ⟨v, he, hb, hf⟩ := hN.fr (by rw [h1]; simp)
  rw [h1] at hf
  obtain ⟨A, c, rfl⟩ := hf.slice
  exact ⟨A, c, he, hb⟩
end Go.Proofs.YthiilnhiihfknaaDoor
