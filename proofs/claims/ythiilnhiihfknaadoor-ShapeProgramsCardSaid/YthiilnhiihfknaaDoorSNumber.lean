/-
  clone.Func, number: contracts.
-/
import Derived.Test.YthiilnhiihfknaaDoorSNo
namespace Go.Proofs.YthiilnhiihfknaaDoor
open Go Go.RowKit

def NumFR (f : Fn) (w : World) (e : Ending) (w' : World) : Prop :=
  ∃ vp vb, e = .returned (fV (numbF f) vp vb) ∧ Below w.heap.size w w' ∧ PR w' (Rn w.heap.size w'.heap.size) f.params vp ∧ SR w' (Rn w.heap.size w'.heap.size) (numbF f).body vb
/-- A function in memory of its own: parameters up to p, statements behind. -/
def OwnF (f : Fn) (w : World) (e : Ending) (w' : World) : Prop :=
  ∃ vp vb p, e = .returned (fV f vp vb) ∧ Below w.heap.size w w' ∧ w.heap.size ≤ p ∧ p ≤ w'.heap.size ∧ PR w' (fun b => w.heap.size ≤ b ∧ b < p) f.params vp ∧ OS w' p w'.heap.size f.body vb
abbrev zFn : Fn := ⟨[], [], 0, [], 0⟩
section
variable {w : World} {b : Nat} {nm : Bytes} {vp vb : Value} {rs ct : Int}
theorem BF.set5 {g : Nat} {nm' : Bytes} {vp' vb' : Value} {rs' ct' : Int} (h : BF w g nm vp rs vb ct) : BF (((((w.setCell ⟨g, 0, none⟩ (.string (B nm'))).setCell ⟨g, 1, none⟩ vp').setCell ⟨g, 2, none⟩ (.int .i64 rs')).setCell ⟨g, 3, none⟩ vb').setCell ⟨g, 4, none⟩ (.int .i64 ct')) g nm' vp' rs' vb' ct' :=
  RowAt.set5 h (i := 0) (r := [.string (B nm), vp, .int .i64 rs, vb, .int .i64 ct]) rfl _ _ _ _ _
end
theorem CloneR.params {W w' : World} {l : List Pa} {e : Ending} (h : CloneR W 61 2 (rowsP l) e w') (hl : l.length ≤ 1000) (ho : ∀ (i : Nat) p, l[i]? = some p → OkP p) :
    ∃ v, e = .returned v ∧ Below W.heap.size W w' ∧ PR w' (Rn W.heap.size w'.heap.size) l v := by
  obtain ⟨hb, h | ⟨g, cap, rfl, hg, hr⟩⟩ := h
  · obtain ⟨h1, A, c, rfl⟩ := h
    have : l = [] := by simpa [rowsP] using h1
    subst this
    exact ⟨_, rfl, hb, PR.nil _ _⟩
  · have := PR.of_row (R := Rn W.heap.size w'.heap.size) hr ⟨hg, hr.lt⟩ (by omega) ho
    exact ⟨_, rfl, hb, by simpa [rowsP] using this⟩
theorem cell_set_ne {w : World} {p : Addr} {u : Value} {b q : Nat} (h : b ≠ p.block) : (w.setCell p u).cell? ⟨b, q, none⟩ = w.cell? ⟨b, q, none⟩ := World.cell?_of_block (w := w) (Below.heap_setCell w p u b h)

theorem two (w : World) (o1 o2 : Obj) : ((w.alloc o1).alloc o2).heap[w.heap.size]? = some o1 ∧ ((w.alloc o1).alloc o2).heap[w.heap.size + 1]? = some o2 ∧ ((w.alloc o1).alloc o2).heap.size = w.heap.size + 2 := by
  refine ⟨?_, ?_, by rw [sz1, sz1]⟩
  · rw [(bal (w.alloc o1) o2).block _ (by rw [sz1]; omega)]
    exact heap_alloc_new w o1
  · have := heap_alloc_new (w.alloc o1) o2
    rwa [sz1] at this

set_option maxRecDepth 100000 in
set_option maxHeartbeats 8000000 in
theorem cloneF_own (f : Fn) (hf : fnB f = true) (vp vb : Value) (w : World) (hP : PIn w w.heap.size f.params vp) (hB : SIn w w.heap.size f.body vb) :
    Calls Tryd.prog 77 #[fV f vp vb] w (OwnF f w) := by
  obtain ⟨A1, c1, rfl⟩ := hP.slice
  obtain ⟨A2, c2, rfl⟩ := hB.slice
  have hpl : f.params.length ≤ 8 := by
    simp only [fnB, pasB, Bool.and_eq_true, decide_eq_true_eq] at hf
    exact hf.1.1.2.1
  obtain ⟨m, hm⟩ : ∃ m, vis FA 20 f.body 0 = some m := by
    simp only [fnB, Bool.and_eq_true] at hf
    exact Option.isSome_iff_exists.1 hf.2
  have HM := Lib.hid hm
  have HOP := Lib.hid (show ∀ (i : Nat) p, f.params[i]? = some p → OkP p by
    intro i p hi
    obtain ⟨hlt, he⟩ := List.getElem?_eq_some_iff.1 hi
    obtain ⟨b, o, _, _, h, _⟩ := hP.at_ i hlt
    rw [he] at h
    exact h)
  have b2 := bal2 w (fO f (.slice A1 f.params.length c1) (.slice A2 f.body.length c2)) (.cells #[.string ⟨#[]⟩, .slice none 0 0, .int .i64 0, .slice none 0 0, .int .i64 0] 43)
  obtain ⟨B1, B2, B3⟩ := two w (fO f (.slice A1 f.params.length c1) (.slice A2 f.body.length c2)) (.cells #[.string ⟨#[]⟩, .slice none 0 0, .int .i64 0, .slice none 0 0, .int .i64 0] 43)
  have HX := Lib.hid (BF.of B1)
  have HR := Lib.hid (BF.of (nm := []) B2)
  have HP := Lib.hid (hP.up b2)
  have HB := Lib.hid hB
  have HB2 := Lib.hid b2
  clear hP hB hf hm b2 B1 B2
  go_enter Tryd.func77, Tryd.ntmps77
  go_wp2_with fail
  refine (cloneP_list f.params (by omega) _ _ _ _ HP.out).mono ?_
  intro e w3 hcl
  obtain ⟨v1, rfl, hb3, hP3⟩ := hcl.params (by omega) (fun i p hi => HOP.out i p hi)
  obtain ⟨A5, c5, rfl⟩ := hP3.slice
  have hz3 : w.heap.size + 2 ≤ w3.heap.size := by have := hb3.size; rw [B3] at this; exact this
  have X3 := HX.out.bel hb3 (by rw [B3]; omega)
  have R3 := HR.out.bel hb3 (by rw [B3]; omega)
  have X4 := BF.set1 X3 (.slice A5 f.params.length c5)
  have HX4 := Lib.hid X4
  have HR4 := Lib.hid (R3.keep (w' := w3.setCell ⟨w.heap.size, 1, none⟩ (.slice A5 f.params.length c5)) (set_ne w3 _ (by omega)))
  have q1 := (BF.at_ X3).2.1
  have f1 := X3.free 1
  have q3 := (BF.at_ X4).2.2.2.1
  have hl3 : Below w.heap.size w (w3.setCell ⟨w.heap.size, 1, none⟩ (.slice A5 f.params.length c5)) := (HB2.out.trans (hb3.mono (by rw [B3]; omega))).setCell (Nat.le_refl _) _
  have HL3 := Lib.hid hl3
  rw [B3] at hP3
  have HP3 := Lib.hid hP3
  have HB3 := Lib.hid ((HB.out.bel hl3).keep (M' := (w3.setCell ⟨w.heap.size, 1, none⟩ (.slice A5 f.params.length c5)).heap.size) (by rw [size_set]; omega) fun _ _ _ => rfl)
  have hzs3 := size_set w3 ⟨w.heap.size, 1, none⟩ (.slice A5 f.params.length c5)
  clear hb3 hP3 X3 R3 X4 hl3 hcl HX HR HP HB
  go_wp2_with fail
  refine (cloneStmts_calls 20 f.body _ 0 m _ (by omega) HB3.out HM.out).mono ?_
  rintro e w4 ⟨v6, rfl, hb4, hS6⟩
  obtain ⟨A6, c6, rfl⟩ := hS6.slice
  rw [hzs3] at hS6
  have hz4 : w3.heap.size ≤ w4.heap.size := by have := hb4.size; rw [hzs3] at this; exact this
  have X4 := HX4.out.bel hb4 (by rw [hzs3]; omega)
  have R4 := HR4.out.bel hb4 (by rw [hzs3]; omega)
  have X5 := BF.set3 X4 (.slice A6 f.body.length c6)
  have R5 := R4.keep (w' := w4.setCell ⟨w.heap.size, 3, none⟩ (.slice A6 f.body.length c6)) (set_ne w4 _ (by omega))
  have q3' := (BF.at_ X4).2.2.2.1
  have f3 := X4.free 3
  obtain ⟨x0, x1, x2, x3, x4⟩ := BF.at_ X5
  obtain ⟨y0, y1, y2, y3, y4⟩ := BF.at_ R5
  have fy := R5.free
  obtain ⟨t0, t1, t2, t3, t4⟩ := BF.at_ (BF.set5 (nm' := f.name) (vp' := .slice A5 f.params.length c5) (rs' := f.result) (vb' := .slice A6 f.body.length c6) (ct' := f.count) R5)
  have k34 : ∀ b, b ≠ w.heap.size → b < w3.heap.size → (w4.setCell ⟨w.heap.size, 3, none⟩ (.slice A6 f.body.length c6)).heap[b]? = w3.heap[b]? := fun b h1 h2 => (set_ne w4 _ h1).trans ((hb4.block b (by rw [hzs3]; exact h2)).trans (set_ne w3 _ h1))
  have k44 : ∀ b, b ≠ w.heap.size → (w4.setCell ⟨w.heap.size, 3, none⟩ (.slice A6 f.body.length c6)).heap[b]? = w4.heap[b]? := fun b h1 => set_ne w4 _ h1
  have hl4 : Below w.heap.size w (w4.setCell ⟨w.heap.size, 3, none⟩ (.slice A6 f.body.length c6)) := (HL3.out.trans (hb4.mono (by rw [hzs3]; omega))).setCell (Nat.le_refl _) _
  have hzs4 := size_set w4 ⟨w.heap.size, 3, none⟩ (.slice A6 f.body.length c6)
  have HL4 := Lib.hid hl4
  have HS6 := Lib.hid hS6
  have HK34 := Lib.hid k34
  have HK44 := Lib.hid k44
  clear hb4 hS6 X4 R4 X5 R5 hl4 k34 k44 HX4 HR4 HB3 q1 f1 q3
  go_wp2_with fail
  generalize w4.setCell ⟨w.heap.size, 3, none⟩ (.slice A6 f.body.length c6) = w6 at *
  have kw : ∀ b, b ≠ w.heap.size + 1 → (((((w6.setCell ⟨w.heap.size + 1, 0, none⟩ (.string (B f.name))).setCell ⟨w.heap.size + 1, 1, none⟩ (.slice A5 f.params.length c5)).setCell ⟨w.heap.size + 1, 2, none⟩ (.int .i64 f.result)).setCell ⟨w.heap.size + 1, 3, none⟩ (.slice A6 f.body.length c6)).setCell ⟨w.heap.size + 1, 4, none⟩ (.int .i64 f.count)).heap[b]? = w6.heap[b]? := by
    intro b hb
    rw [set_ne _ _ hb, set_ne _ _ hb, set_ne _ _ hb, set_ne _ _ hb, set_ne _ _ hb]
  have g1 : w.heap.size ≤ w.heap.size + 1 := Nat.le_succ _
  refine bodyPost_ret (v := fV f (.slice A5 f.params.length c5) (.slice A6 f.body.length c6)) (by simp [results, Tryd.results77, go_sem, t0, t1, t2, t3, t4]) rfl ⟨_, _, w3.heap.size, rfl, ?_, by omega, by simp only [size_set]; omega, ?_, ?_⟩
  · exact ((((HL4.out.setCell (p := ⟨w.heap.size + 1, 0, none⟩) g1 _).setCell (p := ⟨w.heap.size + 1, 1, none⟩) g1 _).setCell (p := ⟨w.heap.size + 1, 2, none⟩) g1 _).setCell (p := ⟨w.heap.size + 1, 3, none⟩) g1 _).setCell (p := ⟨w.heap.size + 1, 4, none⟩) g1 _
  · exact HP3.out.keep (fun b hb => ⟨by have := hb.1; omega, hb.2⟩) fun b q hb => World.cell?_of_block (w := w3) ((kw b (show b ≠ w.heap.size + 1 by have := hb.1; omega)).trans (HK34.out b (show b ≠ w.heap.size by have := hb.1; omega) hb.2))
  · exact (HS6.out.mono (Nat.le_refl _) (by simp only [size_set]; omega)).keep fun b h1 h2 => (kw b (by omega)).trans (HK44.out b (by omega))

set_option maxRecDepth 100000 in
set_option maxHeartbeats 8000000 in
theorem number_own (f : Fn) (hf : fnB f = true) (vp vb : Value) (w : World) (hP : PIn w w.heap.size f.params vp) (hB : SIn w w.heap.size f.body vb) :
    Calls Tryd.prog 54 #[fV f vp vb] w (OwnF (numbF f) w) := by
  obtain ⟨A1, c1, rfl⟩ := hP.slice
  obtain ⟨A2, c2, rfl⟩ := hB.slice
  obtain ⟨m, hm⟩ : ∃ m, vis FA 20 f.body 0 = some m := by
    simp only [fnB, Bool.and_eq_true] at hf
    exact Option.isSome_iff_exists.1 hf.2
  have hm2 := (vis_bounds FA 20 f.body 0 m hm (by omega)).2
  have HM := Lib.hid hm
  have b2 := bal2 w (fO f (.slice A1 f.params.length c1) (.slice A2 f.body.length c2)) (.cells #[.string ⟨#[]⟩, .slice none 0 0, .int .i64 0, .slice none 0 0, .int .i64 0] 43)
  obtain ⟨B1, B2, B3⟩ := two w (fO f (.slice A1 f.params.length c1) (.slice A2 f.body.length c2)) (.cells #[.string ⟨#[]⟩, .slice none 0 0, .int .i64 0, .slice none 0 0, .int .i64 0] 43)
  have HX := Lib.hid (BF.of B1)
  have HR := Lib.hid (BF.of (nm := []) B2)
  have HCF := Lib.hid (cloneF_own f hf _ _ _ (hP.up b2) (hB.up b2))
  have HB2 := Lib.hid b2
  clear hP hB hf hm b2 B1 B2
  go_enter Tryd.func54, Tryd.ntmps54
  go_wp2_with fail
  refine HCF.out.mono ?_
  rintro e w3 ⟨v1, v2, p, rfl, hb3, hp1, hp2, hP3, hO3⟩
  obtain ⟨A5, c5, rfl⟩ := hP3.slice
  obtain ⟨A6, c6, rfl⟩ := hO3.slice
  rw [B3] at hp1 hP3
  have hz3 : w.heap.size + 2 ≤ w3.heap.size := by omega
  have X3 := HX.out.bel hb3 (by rw [B3]; omega)
  have R3 := HR.out.bel hb3 (by rw [B3]; omega)
  obtain ⟨x0, x1, x2, x3, x4⟩ := BF.at_ X3
  have fx := X3.free
  have hXl : w.heap.size < w3.heap.size := by omega
  have hRl : w.heap.size + 1 < w3.heap.size := by omega
  have hXR : w.heap.size ≠ w3.heap.size := by omega
  have HP3 := Lib.hid hP3
  have HO3 := Lib.hid hO3
  have HB3 := Lib.hid hb3
  have HX3 := Lib.hid X3
  have HR3 := Lib.hid R3
  have HPP := Lib.hid (And.intro hp1 hp2)
  clear hP3 hO3 hb3 X3 R3 hp1 hp2 hz3 B3 HCF HX HR
  go_wp2_with fail
  have X4 := BF.set4 (BF.set5 (nm' := f.name) (vp' := .slice A5 f.params.length c5) (rs' := f.result) (vb' := .slice A6 f.body.length c6) (ct' := f.count) HX3.out) 0
  have kq : ∀ b, b ≠ w.heap.size → ((((((w3.setCell ⟨w.heap.size, 0, none⟩ (.string (B f.name))).setCell ⟨w.heap.size, 1, none⟩ (.slice A5 f.params.length c5)).setCell ⟨w.heap.size, 2, none⟩ (.int .i64 f.result)).setCell ⟨w.heap.size, 3, none⟩ (.slice A6 f.body.length c6)).setCell ⟨w.heap.size, 4, none⟩ (.int .i64 f.count)).setCell ⟨w.heap.size, 4, none⟩ (.int .i64 0)).heap[b]? = w3.heap[b]? := fun b hb => by
    rw [set_ne _ _ hb, set_ne _ _ hb, set_ne _ _ hb, set_ne _ _ hb, set_ne _ _ hb, set_ne _ _ hb]
  have hz4 : ((((((w3.setCell ⟨w.heap.size, 0, none⟩ (.string (B f.name))).setCell ⟨w.heap.size, 1, none⟩ (.slice A5 f.params.length c5)).setCell ⟨w.heap.size, 2, none⟩ (.int .i64 f.result)).setCell ⟨w.heap.size, 3, none⟩ (.slice A6 f.body.length c6)).setCell ⟨w.heap.size, 4, none⟩ (.int .i64 f.count)).setCell ⟨w.heap.size, 4, none⟩ (.int .i64 0)).heap.size = w3.heap.size := by simp only [size_set]
  have hl4 : Below w.heap.size w ((((((w3.setCell ⟨w.heap.size, 0, none⟩ (.string (B f.name))).setCell ⟨w.heap.size, 1, none⟩ (.slice A5 f.params.length c5)).setCell ⟨w.heap.size, 2, none⟩ (.int .i64 f.result)).setCell ⟨w.heap.size, 3, none⟩ (.slice A6 f.body.length c6)).setCell ⟨w.heap.size, 4, none⟩ (.int .i64 f.count)).setCell ⟨w.heap.size, 4, none⟩ (.int .i64 0)) := by
    have g0 : w.heap.size ≤ w.heap.size := Nat.le_refl _
    exact ((((((HB2.out.trans (HB3.out.mono (by rw [sz1, sz1]; omega))).setCell (p := ⟨w.heap.size, 0, none⟩) g0 _).setCell (p := ⟨w.heap.size, 1, none⟩) g0 _).setCell (p := ⟨w.heap.size, 2, none⟩) g0 _).setCell (p := ⟨w.heap.size, 3, none⟩) g0 _).setCell (p := ⟨w.heap.size, 4, none⟩) g0 _).setCell (p := ⟨w.heap.size, 4, none⟩) g0 _
  have hcl := HPP.out
  generalize ((((((w3.setCell ⟨w.heap.size, 0, none⟩ (.string (B f.name))).setCell ⟨w.heap.size, 1, none⟩ (.slice A5 f.params.length c5)).setCell ⟨w.heap.size, 2, none⟩ (.int .i64 f.result)).setCell ⟨w.heap.size, 3, none⟩ (.slice A6 f.body.length c6)).setCell ⟨w.heap.size, 4, none⟩ (.int .i64 f.count)).setCell ⟨w.heap.size, 4, none⟩ (.int .i64 0)) = w4 at *
  have hb5 := bal w4 (.cells #[numF w.heap.size w3.heap.size] 56)
  have hK := heap_alloc_new w4 (.cells #[numF w.heap.size w3.heap.size] 56)
  rw [hz4] at hb5 hK
  have hz5 : (w4.alloc (.cells #[numF w.heap.size w3.heap.size] 56)).heap.size = w3.heap.size + 1 := by rw [sz1, hz4]
  have X5 : BF (w4.alloc (.cells #[numF w.heap.size w3.heap.size] 56)) w.heap.size f.name (.slice A5 f.params.length c5) f.result (.slice A6 f.body.length c6) ((0 : Nat) : Int) := X4.bel hb5 hXl
  have hO5 : OS (w4.alloc (.cells #[numF w.heap.size w3.heap.size] 56)) p w3.heap.size f.body (.slice A6 f.body.length c6) := HO3.out.keep fun b h1 h2 => (hb5.block b h2).trans (kq b (by omega))
  refine (num1_calls w.heap.size w3.heap.size (by omega) f.name (.slice A5 f.params.length c5) f.result (.slice A6 f.body.length c6) 20 f.body (.slice A6 f.body.length c6) 0 m p w3.heap.size _ (by omega) (by omega) hO5 (by omega) (.inl (by omega)) (.inr (Nat.le_refl _)) (by omega) X5 hK HM.out).mono ?_
  rintro e w6 ⟨rfl, hN⟩
  have hz6 := hN.fo.size
  rw [hz5] at hz6
  obtain ⟨y0, y1, y2, y3, y4⟩ := BF.at_ hN.bf
  have R6 : BF w6 (w.heap.size + 1) [] (.slice none 0 0) 0 (.slice none 0 0) 0 := HR3.out.keep ((hN.fo.block _ (by omega) (by omega) (by omega)).trans ((hb5.block _ hRl).trans (kq _ (by omega))))
  obtain ⟨r0, r1, r2, r3, r4⟩ := BF.at_ R6
  have fr := R6.free
  obtain ⟨t0, t1, t2, t3, t4⟩ := BF.at_ (BF.set5 (nm' := f.name) (vp' := .slice A5 f.params.length c5) (rs' := f.result) (vb' := .slice A6 f.body.length c6) (ct' := (m : Int)) R6)
  have HL6 := Lib.hid (show Below w.heap.size w w6 from (hl4.trans (hb5.mono (by omega))).trans (hN.fo.below (by omega) (by omega) (Nat.le_refl _)))
  have HP6 := Lib.hid (show PR w6 (fun b => w.heap.size + 2 ≤ b ∧ b < p) f.params (.slice A5 f.params.length c5) from HP3.out.keep (fun b hb => ⟨by have := hb.1; omega, hb.2⟩) fun b q hb => World.cell?_of_block (w := w3) ((hN.fo.block b (by have := hb.2; omega) (by have := hb.2; omega) (by have := hb.1; omega)).trans ((hb5.block b (by have := hb.2; omega)).trans (kq b (by have := hb.1; omega)))))
  have HO6 := Lib.hid hN.os
  have HM2 := Lib.hid (show (numbL 20 f.body 0).2 = (m : Int) from numb_vis FA 20 f.body 0 m HM.out)
  have HC := Lib.hid hcl
  clear hN X4 X5 kq hl4 hb5 hK hO5 R6 hcl HX3 HR3 HO3 HP3 HPP x0 x1 x2 x3 x4 fx
  go_wp2_with fail
  have kw : ∀ b, b ≠ w.heap.size + 1 → (((((w6.setCell ⟨w.heap.size + 1, 0, none⟩ (.string (B f.name))).setCell ⟨w.heap.size + 1, 1, none⟩ (.slice A5 f.params.length c5)).setCell ⟨w.heap.size + 1, 2, none⟩ (.int .i64 f.result)).setCell ⟨w.heap.size + 1, 3, none⟩ (.slice A6 f.body.length c6)).setCell ⟨w.heap.size + 1, 4, none⟩ (.int .i64 (m : Int))).heap[b]? = w6.heap[b]? := by
    intro b hb
    rw [set_ne _ _ hb, set_ne _ _ hb, set_ne _ _ hb, set_ne _ _ hb, set_ne _ _ hb]
  have g1 : w.heap.size ≤ w.heap.size + 1 := Nat.le_succ _
  have hcl := HC.out
  refine bodyPost_ret (v := fV (numbF f) (.slice A5 f.params.length c5) (.slice A6 f.body.length c6)) (by simp [results, Tryd.results54, go_sem, t0, t1, t2, t3, t4, numbF, HM2.out]) rfl ⟨_, _, p, rfl, ?_, by omega, by simp only [size_set]; omega, ?_, ?_⟩
  · exact ((((HL6.out.setCell (p := ⟨w.heap.size + 1, 0, none⟩) g1 _).setCell (p := ⟨w.heap.size + 1, 1, none⟩) g1 _).setCell (p := ⟨w.heap.size + 1, 2, none⟩) g1 _).setCell (p := ⟨w.heap.size + 1, 3, none⟩) g1 _).setCell (p := ⟨w.heap.size + 1, 4, none⟩) g1 _
  · exact HP6.out.keep (fun b hb => ⟨by have := hb.1; omega, hb.2⟩) fun b q hb => World.cell?_of_block (w := w6) (kw b (show b ≠ w.heap.size + 1 by have := hb.1; omega))
  · exact (HO6.out.mono (Nat.le_refl _) (by simp only [size_set]; omega)).keep fun b h1 h2 => (kw b (by omega))
theorem number_calls (f : Fn) (hf : fnB f = true) (vp vb : Value) (w : World) (hP : PIn w w.heap.size f.params vp) (hB : SIn w w.heap.size f.body vb) :
    Calls Tryd.prog 54 #[fV f vp vb] w (NumFR f w) :=
  (number_own f hf vp vb w hP hB).mono fun e w' ⟨v1, v2, p, h1, h2, h3, h4, h5, h6⟩ =>
    ⟨v1, v2, h1, h2, h5.keep (fun b hb => ⟨hb.1, by have := hb.2; omega⟩) fun _ _ _ => rfl, h6.sr.keep (fun b hb => ⟨by have := hb.1; omega, hb.2⟩) fun _ _ _ => rfl⟩
end Go.Proofs.YthiilnhiihfknaaDoor
