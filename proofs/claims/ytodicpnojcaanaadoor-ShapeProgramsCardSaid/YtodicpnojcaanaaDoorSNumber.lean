/-
  number: its contract.
-/
import Derived.Test.YtodicpnojcaanaaDoorSNu
import Derived.Test.YtodicpnojcaanaaDoorSFn
namespace Go.Proofs.YtodicpnojcaanaaDoor
open Go Go.RowKit

def NumFR (f : Fn) (w : World) (e : Ending) (w' : World) : Prop :=
  ∃ vp vb, e = .returned (fV (numbF f) vp vb) ∧ Below w.heap.size w w' ∧ PR w' (Rn w.heap.size w'.heap.size) f.params vp ∧ SR w' (Rn w.heap.size w'.heap.size) (numbF f).body vb
/-- Block b is a function's box. -/
abbrev BF (w : World) (b : Nat) (nm : Bytes) (vp : Value) (rs : Int) (vb : Value) (ct : Int) : Prop := RowAt w b 43 5 1 [[.string (B nm), vp, .int .i64 rs, vb, .int .i64 ct]]
section
variable {w : World} {b : Nat} {nm : Bytes} {vp vb : Value} {rs ct : Int}
theorem BF.of (h : w.heap[b]? = some (.cells #[.string (B nm), vp, .int .i64 rs, vb, .int .i64 ct] 43 (0, 0))) : BF w b nm vp rs vb ct := by
  refine ⟨_, h, rfl, Nat.le_refl _, fun r hr => ?_, fun i r j u hi hj => ?_⟩
  · simp only [List.mem_cons, List.not_mem_nil, or_false] at hr; subst hr; rfl
  · match i, hi with
    | 0, hi =>
      cases hi
      rw [Nat.zero_mul, Nat.zero_add, List.getElem?_toArray]
      exact hj
    | i + 1, hi => simp at hi
theorem BF.at_ (h : BF w b nm vp rs vb ct) : w.cell? ⟨b, 0, none⟩ = some (.string (B nm)) ∧ w.cell? ⟨b, 1, none⟩ = some vp ∧ w.cell? ⟨b, 2, none⟩ = some (.int .i64 rs) ∧ w.cell? ⟨b, 3, none⟩ = some vb ∧ w.cell? ⟨b, 4, none⟩ = some (.int .i64 ct) := by
  have c := fun (j : Nat) u hj => RowAt.cell h (i := 0) (j := j) (u := u) (r := [.string (B nm), vp, .int .i64 rs, vb, .int .i64 ct]) rfl hj
  have c0 := c 0 _ rfl
  have c1 := c 1 _ rfl
  have c2 := c 2 _ rfl
  have c3 := c 3 _ rfl
  have c4 := c 4 _ rfl
  exact ⟨c0, c1, c2, c3, c4⟩
theorem BF.set1 (h : BF w b nm vp rs vb ct) (u : Value) : BF (w.setCell ⟨b, 1, none⟩ u) b nm u rs vb ct := RowAt.set1 h (i := 0) (j := 1) (r := [.string (B nm), vp, .int .i64 rs, vb, .int .i64 ct]) rfl (by omega) u
theorem BF.set3 (h : BF w b nm vp rs vb ct) (u : Value) : BF (w.setCell ⟨b, 3, none⟩ u) b nm vp rs u ct := RowAt.set1 h (i := 0) (j := 3) (r := [.string (B nm), vp, .int .i64 rs, vb, .int .i64 ct]) rfl (by omega) u
theorem BF.set4 (h : BF w b nm vp rs vb ct) (u : Int) : BF (w.setCell ⟨b, 4, none⟩ (.int .i64 u)) b nm vp rs vb u := RowAt.set1 h (i := 0) (j := 4) (r := [.string (B nm), vp, .int .i64 rs, vb, .int .i64 ct]) rfl (by omega) _
theorem BF.set5 {g : Nat} {nm' : Bytes} {vp' vb' : Value} {rs' ct' : Int} (h : BF w g nm vp rs vb ct) : BF (((((w.setCell ⟨g, 0, none⟩ (.string (B nm'))).setCell ⟨g, 1, none⟩ vp').setCell ⟨g, 2, none⟩ (.int .i64 rs')).setCell ⟨g, 3, none⟩ vb').setCell ⟨g, 4, none⟩ (.int .i64 ct')) g nm' vp' rs' vb' ct' :=
  RowAt.set5 h (i := 0) (r := [.string (B nm), vp, .int .i64 rs, vb, .int .i64 ct]) rfl _ _ _ _ _
end
theorem bal4 (w : World) (o1 o2 o3 o4 : Obj) : Below w.heap.size w ((((w.alloc o1).alloc o2).alloc o3).alloc o4) := (bal3 w o1 o2 o3).alloc (by simp; omega) _

theorem b4 (w : World) (o1 o2 o3 o4 : Obj) : ((((w.alloc o1).alloc o2).alloc o3).alloc o4).heap[w.heap.size]? = some o1 ∧ ((((w.alloc o1).alloc o2).alloc o3).alloc o4).heap[w.heap.size + 1]? = some o2 ∧ ((((w.alloc o1).alloc o2).alloc o3).alloc o4).heap[w.heap.size + 1 + 1]? = some o3 ∧ ((((w.alloc o1).alloc o2).alloc o3).alloc o4).heap[w.heap.size + 1 + 1 + 1]? = some o4 ∧ ((((w.alloc o1).alloc o2).alloc o3).alloc o4).heap.size = w.heap.size + 1 + 1 + 1 + 1 := by
  have e := (bal (((w.alloc o1).alloc o2).alloc o3) o4).block
  refine ⟨?_, ?_, ?_, ?_, ?_⟩
  · rw [e _ (by simp <;> omega)]; exact blk1 w o1 o2 o3
  · rw [e _ (by simp <;> omega)]; exact blk2 w o1 o2 o3
  · rw [e _ (by simp <;> omega)]; exact blk3 w o1 o2 o3
  · have := heap_alloc_new (((w.alloc o1).alloc o2).alloc o3) o4
    rwa [sz1, sz1, sz1] at this
  · rw [sz1, sz1, sz1, sz1]
theorem CloneR.params {W w' : World} {l : List Pa} {e : Ending} (h : CloneR W 61 2 (rowsP l) e w') (hl : l.length ≤ 1000) (ho : ∀ (i : Nat) p, l[i]? = some p → OkP p) :
    ∃ v, e = .returned v ∧ Below W.heap.size W w' ∧ PR w' (Rn W.heap.size w'.heap.size) l v := by
  obtain ⟨hb, h | ⟨g, cap, rfl, hg, hr⟩⟩ := h
  · obtain ⟨h1, A, c, rfl⟩ := h
    have : l = [] := by simpa [rowsP] using h1
    subst this
    exact ⟨_, rfl, hb, PR.nil _ _⟩
  · have := PR.of_row (R := Rn W.heap.size w'.heap.size) hr ⟨hg, hr.lt⟩ (by omega) ho
    exact ⟨_, rfl, hb, by simpa [rowsP] using this⟩
theorem cell_set_ne {w : World} {p : Addr} {u : Value} {b q : Nat} (h : b ≠ p.block) : (w.setCell p u).cell? ⟨b, q, none⟩ = w.cell? ⟨b, q, none⟩ := World.cell?_of_block (w := w) (Below.heap_setCell w p u b h)

set_option maxRecDepth 100000 in
set_option maxHeartbeats 8000000 in
theorem number_calls (f : Fn) (hf : fnB f = true) (vp vb : Value) (w : World) (hP : PIn w w.heap.size f.params vp) (hB : SIn w w.heap.size f.body vb) :
    Calls Tryd.prog 54 #[fV f vp vb] w (NumFR f w) := by
  obtain ⟨A1, c1, rfl⟩ := hP.slice
  obtain ⟨A2, c2, rfl⟩ := hB.slice
  have hpl : f.params.length ≤ 8 := by
    simp only [fnB, pasB, Bool.and_eq_true, decide_eq_true_eq] at hf
    exact hf.1.1.2.1
  obtain ⟨m, hm⟩ : ∃ m, vis FA 20 f.body 0 = some m := by
    simp only [fnB, Bool.and_eq_true] at hf
    exact Option.isSome_iff_exists.1 hf.2
  have hm2 := vis_bounds FA 20 f.body 0 m hm (by omega)
  have HM := Lib.hid hm
  have HOP := Lib.hid (show ∀ (i : Nat) p, f.params[i]? = some p → OkP p by
    intro i p hi
    obtain ⟨hlt, he⟩ := List.getElem?_eq_some_iff.1 hi
    obtain ⟨b, o, _, _, h, _⟩ := hP.at_ i hlt
    rw [he] at h
    exact h)
  have HP := Lib.hid hP
  have HB := Lib.hid hB
  clear hP hB hf hm
  go_enter Tryd.func54, Tryd.ntmps54
  go_wp2_with fail
  refine (cloneP_list f.params (by omega) _ _ _ _ (HP.out.up (bal4 w _ _ _ _))).mono ?_
  intro e w1 hcl
  obtain ⟨v1, rfl, hb1, hP1⟩ := hcl.params (by omega) (fun i p hi => HOP.out i p hi)
  obtain ⟨B1, B2, B3, B4, B5⟩ := b4 w (fO f (.slice A1 f.params.length c1) (.slice A2 f.body.length c2)) (.cells #[.string ⟨#[]⟩, .slice none 0 0, .int .i64 0, .slice none 0 0, .int .i64 0] 43) (.cells #[.int .i64 0] 3) (.cells #[numF (w.heap.size + 1 + 1) (w.heap.size + 1 + 1 + 1)] 109)
  obtain ⟨Ap, cp, rfl⟩ := hP1.slice
  rw [B5] at hb1
  have hz1 : w.heap.size + 1 + 1 + 1 + 1 ≤ w1.heap.size := by have := hb1.size; rw [B5] at this; exact this
  have X1 : BF w1 w.heap.size f.name (.slice A1 f.params.length c1) f.result (.slice A2 f.body.length c2) f.count := (BF.of B1).bel hb1 (by omega)
  have R1 : BF w1 (w.heap.size + 1) [] (.slice none 0 0) 0 (.slice none 0 0) 0 := (BF.of B2).bel hb1 (by omega)
  have N1 : IntAt w1 (w.heap.size + 1 + 1) 0 := (hb1.block _ (by omega)).trans B3
  have K1 := (hb1.block _ (by omega)).trans B4
  have L1 : Below w.heap.size w w1 := (bal4 w _ _ _ _).trans (hb1.mono (by omega))
  have hP1' : PR w1 (fun b => w.heap.size + 1 + 1 + 1 < b ∧ b < w1.heap.size) f.params (.slice Ap f.params.length cp) := hP1.keep (fun b hb => ⟨by have := hb.1; rw [B5] at this; omega, hb.2⟩) fun _ _ _ => rfl
  have X2 := X1.set1 (.slice Ap f.params.length cp)
  have q1 := X1.at_.2.1
  have f1 := X1.free 1
  have q3 := X2.at_.2.2.2.1
  have R2 : BF (w1.setCell ⟨w.heap.size, 1, none⟩ (.slice Ap f.params.length cp)) (w.heap.size + 1) [] (.slice none 0 0) 0 (.slice none 0 0) 0 := R1.keep (Below.heap_setCell _ _ _ _ (by show w.heap.size + 1 ≠ w.heap.size; omega))
  have N2 : IntAt (w1.setCell ⟨w.heap.size, 1, none⟩ (.slice Ap f.params.length cp)) (w.heap.size + 1 + 1) 0 := (Below.heap_setCell _ _ _ _ (by show w.heap.size + 1 + 1 ≠ w.heap.size; omega)).trans N1
  have K2 := (Below.heap_setCell w1 ⟨w.heap.size, 1, none⟩ (.slice Ap f.params.length cp) (w.heap.size + 1 + 1 + 1) (by show w.heap.size + 1 + 1 + 1 ≠ w.heap.size; omega)).trans K1
  have cK2 := cell_of_one K2
  have L2 : Below w.heap.size w (w1.setCell ⟨w.heap.size, 1, none⟩ (.slice Ap f.params.length cp)) := L1.setCell (Nat.le_refl _) _
  have HX2 := Lib.hid X2
  have HR2 := Lib.hid R2
  have HN2 := Lib.hid N2
  have HK2 := Lib.hid K2
  have HL2 := Lib.hid L2
  have HP1 := Lib.hid hP1'
  clear B1 B2 B3 B4 B5 hb1 X1 R1 N1 K1 L1 hP1 hP1' X2 R2 N2 K2 L2 hcl
  go_wp2_with fail
  refine (number1_calls (w.heap.size + 1 + 1) (w.heap.size + 1 + 1 + 1) w.heap.size (by omega) (by omega) (by omega) 20 f.body _ 0 m _ (by omega) (by omega) (HB.out.bel HL2.out) HN2.out HK2.out HM.out).mono ?_
  rintro e w3 ⟨v3, rfl, F3, S3', N3⟩
  have S3 : SR w3 (Rn (w1.setCell ⟨w.heap.size, 1, none⟩ (.slice Ap f.params.length cp)).heap.size w3.heap.size) (numbL 20 f.body 0).1 v3 := S3'
  clear S3'
  obtain ⟨As, cs, rfl⟩ := S3.slice
  have hz3 : w1.heap.size ≤ w3.heap.size := by have := F3.size; rw [size_set] at this; exact this
  have X3 := HX2.out.fr F3 (by omega) (by omega)
  have R3 := HR2.out.fr F3 (by omega) (by omega)
  have L3 : Below w.heap.size w w3 := Fr.low HL2.out F3 (by omega) (by omega)
  have hc3 : ∀ b q, w.heap.size + 1 + 1 + 1 < b ∧ b < w1.heap.size → w3.cell? ⟨b, q, none⟩ = w1.cell? ⟨b, q, none⟩ := fun b q hb => (F3.cell (by rw [size_set]; exact hb.2) (by have := hb.1; omega) (by have := hb.1; omega)).trans (cell_set_ne (by have := hb.1; show b ≠ w.heap.size; omega))
  have X4 := BF.set3 X3 (.slice As (numbL 20 f.body 0).1.length cs)
  have q3' := (BF.at_ X3).2.2.2.1
  have f3 := X3.free 3
  have N4 : IntAt (w3.setCell ⟨w.heap.size, 3, none⟩ (.slice As (numbL 20 f.body 0).1.length cs)) (w.heap.size + 1 + 1) m := (Below.heap_setCell _ _ _ _ (by show w.heap.size + 1 + 1 ≠ w.heap.size; omega)).trans N3
  have cN4 := cell_of_one N4
  have X5 := BF.set4 X4 (m : Int)
  have q4 := (BF.at_ X4).2.2.2.2
  have f4 := X4.free 4
  obtain ⟨r0, r1, r2, r3, r4⟩ := BF.at_ X5
  have R5 : BF ((w3.setCell ⟨w.heap.size, 3, none⟩ (.slice As (numbL 20 f.body 0).1.length cs)).setCell ⟨w.heap.size, 4, none⟩ (.int .i64 (m : Int))) (w.heap.size + 1) [] (.slice none 0 0) 0 (.slice none 0 0) 0 :=
    (R3.keep (Below.heap_setCell _ _ _ _ (by show w.heap.size + 1 ≠ w.heap.size; omega))).keep (Below.heap_setCell _ _ _ _ (by show w.heap.size + 1 ≠ w.heap.size; omega))
  obtain ⟨s0, s1, s2, s3, s4⟩ := BF.at_ R5
  have fr5 := R5.free
  have HR5 := Lib.hid R5
  have HL3 := Lib.hid L3
  have HS3 := Lib.hid S3
  have hc3' := Lib.hid hc3
  have HM2 := Lib.hid (show (numbL 20 f.body 0).2 = (m : Int) from numb_vis FA 20 f.body 0 m HM.out)
  clear F3 S3 N3 X3 R3 L3 hc3 X4 N4 X5 R5 cK2 q1 f1 q3
  go_wp2_with fail
  have R9 := BF.set5 (nm' := f.name) (vp' := .slice Ap f.params.length cp) (rs' := f.result) (vb' := .slice As (numbL 20 f.body 0).1.length cs) (ct' := (m : Int)) HR5.out
  obtain ⟨t0, t1, t2, t3, t4⟩ := BF.at_ R9
  clear r0 r1 r2 r3 r4 s0 s1 s2 s3 s4 fr5 R9
  have hcw : ∀ b q, w.heap.size + 1 < b → (((((((w3.setCell ⟨w.heap.size, 3, none⟩ (.slice As (numbL 20 f.body 0).1.length cs)).setCell ⟨w.heap.size, 4, none⟩ (.int .i64 (m : Int))).setCell ⟨w.heap.size + 1, 0, none⟩ (.string (B f.name))).setCell ⟨w.heap.size + 1, 1, none⟩ (.slice Ap f.params.length cp)).setCell ⟨w.heap.size + 1, 2, none⟩ (.int .i64 f.result)).setCell ⟨w.heap.size + 1, 3, none⟩ (.slice As (numbL 20 f.body 0).1.length cs)).setCell ⟨w.heap.size + 1, 4, none⟩ (.int .i64 (m : Int))).cell? ⟨b, q, none⟩ = w3.cell? ⟨b, q, none⟩ := by
    intro b q hb
    have h1 : b ≠ w.heap.size + 1 := by omega
    have h2 : b ≠ w.heap.size := by omega
    rw [cell_set_ne h1, cell_set_ne h1, cell_set_ne h1, cell_set_ne h1, cell_set_ne h1, cell_set_ne h2, cell_set_ne h2]
  have HCW := Lib.hid hcw
  clear hcw
  refine bodyPost_ret (v := .agg #[.string (B f.name), .slice Ap f.params.length cp, .int .i64 f.result, .slice As (numbL 20 f.body 0).1.length cs, .int .i64 (m : Int)]) (by simp [results, Tryd.results54, go_sem, t0, t1, t2, t3, t4]) rfl ⟨.slice Ap f.params.length cp, .slice As (numbL 20 f.body 0).1.length cs, ?_, ?_, ?_, ?_⟩
  · show Ending.returned _ = Ending.returned (fV (numbF f) _ _)
    simp only [numbF, HM2.out]
  · exact ((((((HL3.out.setCell (p := ⟨w.heap.size, 3, none⟩) (Nat.le_refl _) _).setCell (p := ⟨w.heap.size, 4, none⟩) (Nat.le_refl _) _).setCell (p := ⟨w.heap.size + 1, 0, none⟩) (Nat.le_succ _) _).setCell (p := ⟨w.heap.size + 1, 1, none⟩) (Nat.le_succ _) _).setCell (p := ⟨w.heap.size + 1, 2, none⟩) (Nat.le_succ _) _).setCell (p := ⟨w.heap.size + 1, 3, none⟩) (Nat.le_succ _) _).setCell (p := ⟨w.heap.size + 1, 4, none⟩) (Nat.le_succ _) _
  · exact HP1.out.keep (fun b hb => ⟨by have := hb.1; omega, by simp only [size_set]; have := hb.2; omega⟩) fun b q hb => (HCW.out b q (by have := hb.1; omega)).trans (hc3'.out b q hb)
  · exact HS3.out.keep (fun b hb => ⟨by have := hb.1; rw [size_set] at this; omega, by simp only [size_set]; exact hb.2⟩) fun b q hb => HCW.out b q (by have := hb.1; rw [size_set] at this; omega)
end Go.Proofs.YtodicpnojcaanaaDoor
