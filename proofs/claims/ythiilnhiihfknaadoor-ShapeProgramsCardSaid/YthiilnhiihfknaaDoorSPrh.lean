/-
  ShapePrograms: the law's walk.
-/
import Derived.Test.YthiilnhiihfknaaDoorSFew
namespace Go.Proofs.YthiilnhiihfknaaDoor
open Go Go.RowKit Go.Sort

theorem RefNumP.fr2 {l : List Fn} {w w' : World} {e : Ending} {R : Nat → Prop} (h : RefNumP l R w e w') (hl : (numbP l).length ≤ 1000) : ∃ v, e = .returned (.agg #[v]) ∧ Below w.heap.size w w' ∧ FR w' (fun b => R b ∨ (w.heap.size ≤ b ∧ b < w'.heap.size)) (numbP l) v := by
  obtain ⟨v, rfl, hb, h | ⟨g, cap, lo, V, rfl, hlo, hg, hr, hn⟩⟩ := h
  · obtain ⟨h1, A, c, rfl⟩ := h
    rw [h1]
    exact ⟨_, rfl, hb, FR.nil _ _⟩
  · have kk : ∀ b, (R b ∨ (lo ≤ b ∧ b < w'.heap.size)) ∧ b ≠ g → R b ∨ (w.heap.size ≤ b ∧ b < w'.heap.size) := by
      rintro b ⟨h1 | h1, _⟩
      · exact .inl h1
      · exact .inr ⟨by omega, h1.2⟩
    exact ⟨_, rfl, hb, FR.of_row hr (.inr ⟨by omega, hr.lt⟩) (by omega) (fun i f hi => (hn i f hi).1.ok) (fun i f hi => (hn i f hi).1.p.keep kk fun _ _ _ => rfl) (fun i f hi => (hn i f hi).1.b.keep kk fun _ _ _ => rfl)⟩
theorem alloc_keep {w : World} {a : Addr} {v : Value} {o : Obj} (h : w.cell? a = some v) : (w.alloc o).cell? a = some v := ((bal w o).cell (World.block_lt_of_cell? _ _ h)).trans h
theorem set_keep {w : World} {b i : Nat} {p : Addr} {u v : Value} (hn : b ≠ p.block) (h : w.cell? ⟨b, i, none⟩ = some v) : (w.setCell p u).cell? ⟨b, i, none⟩ = some v := (cell_set_ne hn).trans h
abbrev nilP : Obj := .cells #[.slice none 0 0] 35
section
variable {X w' : World} {o o' : Obj}
theorem box1d (h : Below (X.alloc o).drew.heap.size (X.alloc o).drew w') : w'.heap[X.heap.size]? = some o := (h.block X.heap.size (by simp)).trans (heap_alloc_new X o)
theorem box1 (h : Below (X.alloc o).heap.size (X.alloc o) w') : w'.heap[X.heap.size]? = some o := (h.block X.heap.size (by simp)).trans (heap_alloc_new X o)
theorem box2d (h : Below ((X.alloc o).alloc o').drew.heap.size ((X.alloc o).alloc o').drew w') : w'.heap[X.heap.size]? = some o ∧ w'.heap[X.heap.size + 1]? = some o' := by
  refine ⟨(h.block X.heap.size (by simp; omega)).trans ((two X o o').1), (h.block (X.heap.size + 1) (by simp)).trans ((two X o o').2.1)⟩
theorem box2 (h : Below ((X.alloc o).alloc o').heap.size ((X.alloc o).alloc o') w') : w'.heap[X.heap.size]? = some o ∧ w'.heap[X.heap.size + 1]? = some o' := by
  refine ⟨(h.block X.heap.size (by simp; omega)).trans ((two X o o').1), (h.block (X.heap.size + 1) (by simp)).trans ((two X o o').2.1)⟩
end
/-- What the third region leaves. -/
theorem cellLt {w : World} {a : Addr} {v : Value} (h : w.cell? a = some v) : a.block < w.heap.size := by
  rcases Nat.lt_or_ge a.block w.heap.size with h1 | h1
  · exact h1
  · exfalso; simp [World.cell?, Array.getElem?_eq_none h1] at h
def PrgC (w2 : World) (lp : List Fn) (s5 s6 : Value) (wx : World) : Prop := ∃ B5 B6 va vb, s5 = .pointer (some ⟨B5, 0, none⟩) ∧ s6 = .pointer (some ⟨B6, 0, none⟩) ∧ wx.cell? ⟨B5, 0, none⟩ = some va ∧ wx.cell? ⟨B6, 0, none⟩ = some vb ∧
  FIn wx wx.heap.size (numbP lp) va ∧ FIn wx wx.heap.size (numbP lp) vb ∧ Below w2.heap.size w2 wx
theorem prg_close {w2 w5 w6 wx : World} {lp : List Fn} {R5 R6 : Nat → Prop} {v5 v6 : Value} {B5 B6 : Nat} (h5 : FR w5 R5 (numbP lp) v5) (h6 : FR w6 R6 (numbP lp) v6) (h56 : Below w5.heap.size w5 w6)
    (hr5 : ∀ b, R5 b → b < w5.heap.size ∧ b ≠ B5 ∧ b ≠ B6) (hr6 : ∀ b, R6 b → b < w6.heap.size ∧ b ≠ B5 ∧ b ≠ B6)
    (hx : ∀ b q, b ≠ B5 → b ≠ B6 → b < w6.heap.size → wx.cell? ⟨b, q, none⟩ = w6.cell? ⟨b, q, none⟩) (hsz : w6.heap.size ≤ wx.heap.size)
    (k5 : wx.cell? ⟨B5, 0, none⟩ = some v5) (k6 : wx.cell? ⟨B6, 0, none⟩ = some v6) (hbx : Below w2.heap.size w2 wx) :
    PrgC w2 lp (.pointer (some ⟨B5, 0, none⟩)) (.pointer (some ⟨B6, 0, none⟩)) wx := by
  refine ⟨B5, B6, v5, v6, rfl, rfl, k5, k6, FR.keep h5 (fun b hb => ?_) (fun b q hb => ?_), FR.keep h6 (fun b hb => ?_) (fun b q hb => ?_), hbx⟩
  · exact Nat.lt_of_lt_of_le (hr5 b hb).1 (Nat.le_trans h56.size hsz)
  · obtain ⟨a1, a2, a3⟩ := hr5 b hb
    exact (hx b q a2 a3 (Nat.lt_of_lt_of_le a1 h56.size)).trans (h56.cell (p := ⟨b, q, none⟩) a1)
  · exact Nat.lt_of_lt_of_le (hr6 b hb).1 hsz
  · obtain ⟨a1, a2, a3⟩ := hr6 b hb
    exact hx b q a2 a3 a1
theorem set_sz (w : World) (p : Addr) (u : Value) : (w.setCell p u).heap.size = w.heap.size := by simp [World.setCell]
theorem aa_0 {w : World} {v : Value} {o : Obj} : ((w.alloc (.cells #[v] 35)).alloc o).cell? ⟨w.heap.size, 0, none⟩ = some v := alloc_keep (cell_of_one (heap_alloc_new w _))
theorem aa_1 {w : World} {v : Value} {o : Obj} : ((w.alloc o).alloc (.cells #[v] 35)).cell? ⟨w.heap.size + 1, 0, none⟩ = some v := cell_of_one (two w _ _).2.1
theorem sa_new {w : World} {p : Addr} {u v : Value} : ((w.setCell p u).alloc (.cells #[v] 35)).cell? ⟨w.heap.size, 0, none⟩ = some v := by
  have h := cell_of_one (heap_alloc_new (w.setCell p u) (.cells #[v] 35))
  rw [set_sz] at h
  exact h
theorem a_new {w : World} {v : Value} : (w.alloc (.cells #[v] 35)).cell? ⟨w.heap.size, 0, none⟩ = some v := cell_of_one (heap_alloc_new w _)
theorem sa_old {w : World} {b : Nat} {z u : Value} {o : Obj} (h : w.cell? ⟨b, 0, none⟩ = some z) : ((w.setCell ⟨b, 0, none⟩ u).alloc o).cell? ⟨b, 0, none⟩ = some u := alloc_keep (World.cell?_setCell_same _ _ _ h)
set_option maxRecDepth 100000 in
set_option maxHeartbeats 20000000 in
theorem shapePrograms_calls (lp lq : List Fn) (Ap Aq : Option Addr) (cp cq : Nat) (w : World) (hp : FIn w w.heap.size lp (.slice Ap lp.length cp)) (hcp : lp.length ≤ cp) (hq : FIn w w.heap.size lq (.slice Aq lq.length cq)) (hcq : lq.length ≤ cq) (hG : Glob w) :
    Calls Tryd.prog 4 #[.agg #[.slice Ap lp.length cp], .agg #[.slice Aq lq.length cq]] w fun e w' => e = .returned (.bool true) ∧ Below w.heap.size w w' := by
  have hlp := hp.le
  have hlq := hq.le
  have hb0 := bal2 w (.cells #[.slice Ap lp.length cp] 35) (.cells #[.slice Aq lq.length cq] 35)
  obtain ⟨b1, b2, b3⟩ := two w (.cells #[.slice Ap lp.length cp] 35) (.cells #[.slice Aq lq.length cq] 35)
  have HG := Lib.hid (hG.up hb0)
  have HP := Lib.hid (FR.up hp hb0)
  have HQ := Lib.hid (FR.up hq hb0)
  have HB0 := Lib.hid hb0
  have H1 := Lib.hid b1
  have H2 := Lib.hid b2
  have c1 := cell_of_one b1
  have c2 := cell_of_one b2
  clear hp hq hG hb0 b1 b2 b3
  go_enter Tryd.func4, Tryd.ntmps4
  go_wp2_with fail
  generalize ((w.alloc (.cells #[.slice Ap lp.length cp] 35)).alloc (.cells #[.slice Aq lq.length cq] 35)) = w0 at *
  refine (few_calls lp Ap cp _ HP.out hcp).mono ?_
  rintro e w1 ⟨bb, rfl, hb1⟩
  have HB1 := Lib.hid hb1
  have HG1 := Lib.hid (HG.out.up hb1)
  have HP1 := Lib.hid (FR.up HP.out hb1)
  have HQ1 := Lib.hid (FR.up HQ.out hb1)
  have HH1 := Lib.hid ((hb1.block _ (lt_of_block H1.out)).trans H1.out)
  have HH2 := Lib.hid ((hb1.block _ (lt_of_block H2.out)).trans H2.out)
  clear c1 c2 hb1
  have c1 := cell_of_one HH1.out
  have c2 := cell_of_one HH2.out
  have HW1 := Lib.hid (after HB0.out HB1.out)
  cases bb with
  | false =>
    go_wp2_with fail
    refine (works_calls _ HG1.out).mono ?_
    rintro e w2 ⟨rfl, hb2⟩
    have HB2 := Lib.hid (after HW1.out hb2)
    clear hb2
    go_wp2_with fail
    go_ret
    exact ⟨rfl, HB2.out⟩
  | true =>
    go_wp2_with fail
    refine (few_calls lq Aq cq _ HQ1.out hcq).mono ?_
    rintro e w2 ⟨bb, rfl, hb2⟩
    have HB2 := Lib.hid (after HW1.out hb2)
    have HG2 := Lib.hid (HG1.out.up hb2)
    have HP2 := Lib.hid (FR.up HP1.out hb2)
    have HQ2 := Lib.hid (FR.up HQ1.out hb2)
    have HK1 := Lib.hid ((hb2.block _ (lt_of_block HH1.out)).trans HH1.out)
    have HK2 := Lib.hid ((hb2.block _ (lt_of_block HH2.out)).trans HH2.out)
    clear c1 c2 hb2
    have c1 := cell_of_one HK1.out
    have c2 := cell_of_one HK2.out
    cases bb with
    | false =>
      go_wp2_with fail
      refine (works_calls _ HG2.out).mono ?_
      rintro e w3 ⟨rfl, hb3⟩
      have HB3 := Lib.hid (after HB2.out hb3)
      clear hb3
      go_wp2_with fail
      go_ret
      exact ⟨rfl, HB3.out⟩
    | true =>
      go_upto_region 3 with fail
      go_cut [5, 6] (fun s5 s6 wx => Hid (PrgC w2 lp s5 s6 wx))
      case first =>
        have hlt2 := lt_of_block HK1.out
        have CN := Lib.hid (fun W (h : Below w2.heap.size w2 W) => number_all lp (.slice Ap lp.length cp) W (FR.up HP2.out h) (HG2.out.up h))
        have CR := Lib.hid (fun W (h : Below w2.heap.size w2 W) => refNumber_all lp (.slice Ap lp.length cp) (fun b => b < w2.heap.size) W (FR.keep HP2.out (fun _ h => h) fun b i hb => h.cell (p := ⟨b, i, none⟩) hb) (fun b hb => Nat.lt_of_lt_of_le hb h.size))
        have hnl := numbP_len lp
        have HNL := Lib.hid hnl
        have nw2 : w.heap.size ≠ w2.heap.size := by omega
        have nw2' : w.heap.size ≠ w2.heap.size + 1 := by omega
        clear hnl
        go_region_held3 (fun w' => w'.cell? ⟨w.heap.size, 0, none⟩ = some (.slice Ap lp.length cp)) (first | ((try dsimp only); (repeat (first | (refine alloc_keep ?_) | (refine set_keep (by first | assumption | (show _ ≠ _; omega)) ?_))); (first | assumption | exact c1 | go_keep))) (first | (go_at_call 22; refine (CN.out _ (by first | exact (Below.refl _ _).drew | exact ((Below.refl _ _).alloc (Nat.le_refl _) _).drew | exact (((Below.refl _ _).alloc (Nat.le_refl _) _).alloc (by simp) _).drew)).mono ?_; intro e w5 hN; obtain ⟨va, rfl, hb5, hf5⟩ := hN.fr (by have := HNL.out; omega); obtain ⟨A5, c5, rfl⟩ := hf5.slice; have F5 : Below w2.heap.size w2 w5 := (by first | exact (Below.refl _ _).drew.trans hb5 | exact ((Below.refl _ _).alloc (Nat.le_refl _) _).drew.trans (hb5.mono (by simp <;> omega)) | exact (((Below.refl _ _).alloc (Nat.le_refl _) _).alloc (by simp) _).drew.trans (hb5.mono (by simp <;> omega))); have d5 := (F5.cell (p := ⟨w.heap.size, 0, none⟩) hlt2).trans c1; have hw5 : w.heap.size < w5.heap.size := Nat.lt_of_lt_of_le hlt2 F5.size; have nw5 : w.heap.size ≠ w5.heap.size := Nat.ne_of_lt hw5; have nw5' : w.heap.size ≠ w5.heap.size + 1 := Nat.ne_of_lt (Nat.lt_succ_of_lt hw5); have hs5 := hb5.size; (try simp at hs5); (first | (obtain ⟨P0, P1⟩ := box2d hb5; have p0 := cell_of_one P0; have p0f := free_of_one P0; have p1 := cell_of_one P1; have p1f := free_of_one P1; have p0l := lt_of_block P0; have p0n := Nat.ne_of_lt (lt_of_block P0); have p1l := lt_of_block P1; have p1n := Nat.ne_of_lt (lt_of_block P1)) | (have P0 := box1d hb5; have p0 := cell_of_one P0; have p0f := free_of_one P0; have p0l := lt_of_block P0; have p0n := Nat.ne_of_lt (lt_of_block P0)) | skip)) | (go_at_call 23; refine (CR.out _ (by first | exact F5 | exact F5.alloc F5.size _ | exact (F5.alloc F5.size _).alloc (by have := F5.size; simp; omega) _)).mono ?_; intro e w6 hR; obtain ⟨vb, rfl, hb6, hf6⟩ := hR.fr2 (by have := HNL.out; omega); obtain ⟨A6, c6, rfl⟩ := hf6.slice; have F6 : Below w2.heap.size w2 w6 := (by first | exact F5.trans (hb6.mono F5.size) | exact (F5.alloc F5.size _).trans (hb6.mono (by have := F5.size; simp; omega)) | exact ((F5.alloc F5.size _).alloc (by have := F5.size; simp; omega) _).trans (hb6.mono (by have := F5.size; simp; omega))); have d6 := (F6.cell (p := ⟨w.heap.size, 0, none⟩) hlt2).trans c1; have hw6 : w.heap.size < w6.heap.size := Nat.lt_of_lt_of_le hlt2 F6.size; have nw6 : w.heap.size ≠ w6.heap.size := Nat.ne_of_lt hw6; have nw6' : w.heap.size ≠ w6.heap.size + 1 := Nat.ne_of_lt (Nat.lt_succ_of_lt hw6); have hs6 := hb6.size; (try simp at hs6); (first | (have P0' : w6.heap[w2.heap.size]? = some nilP := (by first | exact (hb6.block _ (lt_of_block P0)).trans P0 | exact ((hb6.block _ (Nat.lt_of_lt_of_le (lt_of_block P0) (bal w5 _).size)).trans ((bal w5 _).block _ (lt_of_block P0))).trans P0); have p0' := cell_of_one P0'; have p0f' := free_of_one P0'; have p0l' := lt_of_block P0'; have p0n' := Nat.ne_of_lt (lt_of_block P0'); clear p0 p0f p0l p0n) | skip); (first | (have P1' := (hb6.block _ (by have := lt_of_block P1; first | omega | (simp; omega))).trans P1; have p1' := cell_of_one P1'; have p1f' := free_of_one P1'; have p1l' := lt_of_block P1'; have p1n' := Nat.ne_of_lt (lt_of_block P1'); clear p1 p1f p1l p1n) | skip); (first | (obtain ⟨Q0, Q1⟩ := box2 hb6; have q0 := cell_of_one Q0; have q0f := free_of_one Q0; have q1 := cell_of_one Q1; have q1f := free_of_one Q1; have q0l := lt_of_block Q0; have q0n := Nat.ne_of_lt (lt_of_block Q0); have q1l := lt_of_block Q1; have q1n := Nat.ne_of_lt (lt_of_block Q1)) | (have Q0 := box1 hb6; have q0 := cell_of_one Q0; have q0f := free_of_one Q0; have q0l := lt_of_block Q0; have q0n := Nat.ne_of_lt (lt_of_block Q0)) | skip)))
        all_goals
          go_wp2_with fail
          go_meet
          refine Lib.hid (prg_close hf5 hf6 ?h56 ?hr5 ?hr6 ?hx ?hsz ?k5 ?k6 ?hbx)
          case h56 => first | exact hb6 | exact (bal w5 _).trans (hb6.mono (bal w5 _).size) | exact (bal2 w5 _ _).trans (hb6.mono (bal2 w5 _ _).size)
          case hr5 => intro b h; (try simp [Rn] at h); have := F6.size; refine ⟨?_, ?_, ?_⟩ <;> omega
          case hr6 => intro b h; (try simp at h); have := F6.size; have := F5.size; refine ⟨?_, ?_, ?_⟩ <;> omega
          case hx => intro b q hn5 hn6 hl; first | exact (bal2 _ _ _).cell (p := ⟨b, q, none⟩) hl | exact ((bal _ _).cell (p := ⟨b, q, none⟩) (by rw [set_sz]; exact hl)).trans (cell_set_ne (by first | exact hn5 | exact hn6)) | exact (cell_set_ne (by first | exact hn5 | exact hn6)).trans (cell_set_ne (by first | exact hn5 | exact hn6)) | exact (cell_set_ne (by first | exact hn5 | exact hn6)).trans ((bal _ _).cell (p := ⟨b, q, none⟩) hl)
          case hsz => first | exact (bal2 w6 _ _).size | (simp; done) | (simp; omega) | (simp [set_sz]; done) | (simp [set_sz]; omega)
          case k5 => (first | assumption | exact aa_0 | exact aa_1 | exact sa_new | exact sa_old (by assumption) | exact World.cell?_setCell_same _ _ _ (set_keep (by show _ ≠ _; omega) (by assumption)) | exact set_keep (by show _ ≠ _; omega) (World.cell?_setCell_same _ _ _ (by assumption)) | exact World.cell?_setCell_same _ _ _ (alloc_keep (by assumption)) | exact set_keep (by show _ ≠ _; omega) a_new | (go_keep; exact World.cell?_setCell_same _ _ _ (by assumption)) | (go_keep; done) | (go_simp; done))
          case k6 => (first | assumption | exact aa_0 | exact aa_1 | exact sa_new | exact sa_old (by assumption) | exact World.cell?_setCell_same _ _ _ (set_keep (by show _ ≠ _; omega) (by assumption)) | exact set_keep (by show _ ≠ _; omega) (World.cell?_setCell_same _ _ _ (by assumption)) | exact World.cell?_setCell_same _ _ _ (alloc_keep (by assumption)) | exact set_keep (by show _ ≠ _; omega) a_new | (go_keep; exact World.cell?_setCell_same _ _ _ (by assumption)) | (go_keep; done) | (go_simp; done))
          case hbx => have hF := F6.size; first | exact (F6.alloc hF _).alloc (by simp; omega) _ | (refine Below.setCell (Below.setCell F6 ?_ _) ?_ _ <;> (first | exact Nat.le_refl _ | exact Nat.le_succ _ | exact F5.size | exact Nat.le_succ_of_le F5.size | exact hF | exact Nat.le_succ_of_le hF | (rw [set_sz]; exact hF) | (simp; omega))) | (refine Below.alloc (Below.setCell F6 ?_ _) ?_ _ <;> (first | exact Nat.le_refl _ | exact Nat.le_succ _ | exact F5.size | exact Nat.le_succ_of_le F5.size | exact hF | exact Nat.le_succ_of_le hF | (rw [set_sz]; exact hF) | (simp; omega))) | (refine Below.setCell (Below.alloc F6 hF _) ?_ _ <;> (first | exact Nat.le_refl _ | exact Nat.le_succ _ | exact F5.size | exact Nat.le_succ_of_le F5.size | exact hF | exact Nat.le_succ_of_le hF | (rw [set_sz]; exact hF) | (simp; omega)))
      case rest =>
        obtain ⟨B5, B6, va, vb, rfl, rfl, k5, k6, hfa, hfb, hbx⟩ := hcut.out
        obtain ⟨Aa, ca, rfl⟩ := hfa.slice
        obtain ⟨Ab, cb, rfl⟩ := hfb.slice
        have hlt2 := lt_of_block HK2.out
        have HX1 := Lib.hid ((hbx.block _ (lt_of_block HK1.out)).trans HK1.out)
        have HX2 := Lib.hid ((hbx.block _ (lt_of_block HK2.out)).trans HK2.out)
        have HFA := Lib.hid hfa
        have HFB := Lib.hid hfb
        have HBX := Lib.hid (after HB2.out hbx)
        have HPX := Lib.hid (FR.up HP2.out hbx)
        have HQX := Lib.hid (FR.up HQ2.out hbx)
        have HGX := Lib.hid (HG2.out.up hbx)
        have hnl := numbP_len lp
        clear hcut hfa hfb hbx c1 c2
        have q1 := fun d os => cell_regrown (cell_of_one HX1.out) d os
        have q2 := fun d os => cell_regrown (cell_of_one HX2.out) d os
        have q5 := fun d os => cell_regrown k5 d os
        have q6 := fun d os => cell_regrown k6 d os
        have r1 := fun d os => Calls.regrown_of (d := d) (os := os) (check_calls lp _ _ (FR.up HPX.out (below_regrown wc d os)) (HGX.out.up (below_regrown wc d os)))
        have r2 := fun d os => Calls.regrown_of (d := d) (os := os) (refCheck_calls lp _ _ (FR.up HPX.out (below_regrown wc d os)))
        have r3 := fun d os => Calls.regrown_of (d := d) (os := os) (same_calls lp lq _ _ _ (FR.up HPX.out (below_regrown wc d os)) (FR.up HQX.out (below_regrown wc d os)) (HGX.out.up (below_regrown wc d os)))
        have r4 := fun d os => Calls.regrown_of (d := d) (os := os) (refSame_calls lp lq _ _ _ (FR.up HPX.out (below_regrown wc d os)) (FR.up HQX.out (below_regrown wc d os)))
        have r5 := fun d os => Calls.regrown_of (d := d) (os := os) (refCheck_calls (numbP lp) _ _ (FR.up HFA.out (below_regrown wc d os)))
        have r6 := fun d os => Calls.regrown_of (d := d) (os := os) (refSame_calls (numbP lp) (numbP lp) _ _ _ (FR.up HFA.out (below_regrown wc d os)) (FR.up HFB.out (below_regrown wc d os)))
        simp only [checkB_numbP, errI_true] at r5
        have e6 : samePr (numbP lp) (numbP lp) = true := by simp [samePr, checkB_numbP, eqFl]
        simp only [e6] at r6
        generalize errI (checkB lp) = z at r1 r2
        generalize samePr lp lq = y at r3 r4
        have R1 := Lib.hid r1
        have R2 := Lib.hid r2
        have R3 := Lib.hid r3
        have R4 := Lib.hid r4
        have R5 := Lib.hid r5
        have R6 := Lib.hid r6
        have bz : (z != z) = false := by simp
        have bz2 : (z == z) = true := by simp
        have by1 : (y != y) = false := by simp
        have by2 : (y == y) = true := by simp
        have bl : (((numbP lp).length : Int) != ((numbP lp).length : Int)) = false := by simp
        clear r1 r2 r3 r4 r5 r6 e6 k5 k6
        go_wp2_with fail
        refine wp_region_quiet_below (by kernel_rfl) (by kernel_rfl) ?_
        repeat (first | go_big_quiet_step (first | with_reducible exact R1.out _ _ | with_reducible exact R2.out _ _ | with_reducible exact R3.out _ _ | with_reducible exact R4.out _ _ | with_reducible exact R5.out _ _ | with_reducible exact R6.out _ _) | quiet_step (first | with_reducible exact R1.out _ _ | with_reducible exact R2.out _ _ | with_reducible exact R3.out _ _ | with_reducible exact R4.out _ _ | with_reducible exact R5.out _ _ | with_reducible exact R6.out _ _))
        refine wpQuiet_nil ?_
        intro _ hw'
        obtain ⟨⟨dq, osq⟩, hw''⟩ := hw'
        subst hw''
        have HB5 := Lib.hid (HBX.out.trans ((below_regrown wc dq osq).mono HBX.out.size))
        have k1 := q1 dq osq
        have HHX1 := Lib.hid (((below_regrown wc dq osq).block _ (lt_of_block HX1.out)).trans HX1.out)
        have HHX2 := Lib.hid (((below_regrown wc dq osq).block _ (lt_of_block HX2.out)).trans HX2.out)
        have HPX := Lib.hid (FR.up HPX.out (below_regrown wc dq osq))
        have HQX := Lib.hid (FR.up HQX.out (below_regrown wc dq osq))
        have HFA := Lib.hid (FR.up HFA.out (below_regrown wc dq osq))
        have HFB := Lib.hid (FR.up HFB.out (below_regrown wc dq osq))
        have HGX := Lib.hid (HGX.out.up (below_regrown wc dq osq))
        have H5c := Lib.hid (q5 dq osq)
        have H6c := Lib.hid (q6 dq osq)
        clear q1 q2 q5 q6 R1 R2 R3 R4 R5 R6 bz bz2 by1 by2 bl
        generalize grow (redrawn wc dq) osq = w5 at *
        go_wp2_with fail
        go_loopw [61] (fun c wr => ∃ n : Nat, n ≤ lp.length ∧ c = .int .i64 n ∧ Hid (Below w5.heap.size w5 wr)) (fun c _ => lp.length - (intOf c).toNat)
        case atStart => exact ⟨0, by omega, rfl, Lib.hid (Below.refl _ _)⟩
        case round =>
          obtain ⟨n, hn, rfl, HW⟩ := hrel
          clear k1
          have hz := HW.out.size
          have HBW := Lib.hid (show Below w.heap.size w wr from HB5.out.trans (HW.out.mono HB5.out.size))
          by_cases hlt : n < lp.length
          · obtain ⟨b, o, vp, vb, hA, hbl, hok, hcc, hp, hb⟩ := HPX.out.at_ n hlt
            obtain ⟨a0, a1, a2, a3, a4⟩ := hcc.keep (fun q => HW.out.cell (p := ⟨b, q, none⟩) hbl)
            obtain ⟨A1, c1, rfl⟩ := hp.slice
            obtain ⟨A2, c2, rfl⟩ := hb.slice
            have HP1' := Lib.hid (PR.up hp HW.out)
            have HB1' := Lib.hid (SIn.up hb HW.out)
            have HOF := Lib.hid hok
            have m2 := cell_of_one ((HW.out.block _ (lt_of_block HHX2.out)).trans HHX2.out)
            have hlt2r : w.heap.size + 1 < wr.heap.size := Nat.lt_of_lt_of_le (lt_of_block HHX2.out) hz
            have hne2r : w.heap.size + 1 ≠ wr.heap.size := by omega
            subst hA
            clear hcc hp hb hok
            generalize lp[n] = f at *
            have HBo := Lib.hid (bal wr (fO f (.slice A1 f.params.length c1) (.slice A2 f.body.length c2)))
            have HXo := Lib.hid (FBox.new wr f (.slice A1 f.params.length c1) (.slice A2 f.body.length c2))
            go_wp2_with fail
            clear a0 a1 a2 a3 a4 m2
            generalize hwv : (wr.alloc (fO f (.slice A1 f.params.length c1) (.slice A2 f.body.length c2))) = wv at *
            have hvs : wv.heap.size = wr.heap.size + 1 := by rw [← hwv]; exact sz1 _ _
            have HVS := Lib.hid hvs
            clear hwv hvs
            generalize wr = wo at *
            go_loopw [69] (fun c wr => ∃ j : Nat, j ≤ lq.length ∧ c = .int .i64 j ∧ Hid (Below wv.heap.size wv wr)) (fun c _ => lq.length - (intOf c).toNat)
            case atStart => exact ⟨0, by omega, rfl, Lib.hid (Below.refl _ _)⟩
            case round =>
              obtain ⟨j, hj, rfl, HI⟩ := hrel
              have hzi := HI.out.size
              have hvs := HVS.out
              have HRI := Lib.hid (show Below wo.heap.size wo wr from HBo.out.trans (HI.out.mono (by omega)))
              have HSI := Lib.hid (show Below w5.heap.size w5 wr from after HW.out HRI.out)
              have HTI := Lib.hid (show Below w.heap.size w wr from after HBW.out HRI.out)
              obtain ⟨x0, x1, x2, x3, x4⟩ := HXo.out.keep HI.out (by omega)
              by_cases hjt : j < lq.length
              · obtain ⟨b2, o2, up, ub, hA2, hbl2, hok2, hcc2, hp2, hb2⟩ := HQX.out.at_ j hjt
                obtain ⟨d0, d1, d2, d3, d4⟩ := hcc2.keep (fun q => HSI.out.cell (p := ⟨b2, q, none⟩) hbl2)
                obtain ⟨A3, c3, rfl⟩ := hp2.slice
                obtain ⟨A4, c4, rfl⟩ := hb2.slice
                have HP2' := Lib.hid (PR.up hp2 HSI.out)
                have HB2' := Lib.hid (SIn.up hb2 HSI.out)
                have HOG := Lib.hid hok2
                subst hA2
                clear hcc2 hp2 hb2 hok2
                generalize lq[j] = g at *
                have hwol : wo.heap.size < wr.heap.size := by omega
                have hwon : wo.heap.size ≠ wr.heap.size := by omega
                have HBg := Lib.hid (bal wr (fO g (.slice A3 g.params.length c3) (.slice A4 g.body.length c4)))
                have HXg := Lib.hid (FBox.new wr g (.slice A3 g.params.length c3) (.slice A4 g.body.length c4))
                go_wp2_with fail
                clear d0 d1 d2 d3 d4
                obtain ⟨y0, y1, y2, y3, y4⟩ := HXg.out
                obtain ⟨z0, z1, z2, z3, z4⟩ := HXo.out.keep (after HI.out HBg.out) (by omega)
                have HP1g := Lib.hid (PR.up (PR.up HP1'.out HRI.out) HBg.out)
                have HB1g := Lib.hid (SIn.up (SIn.up HB1'.out HRI.out) HBg.out)
                have HP2g := Lib.hid (PR.up HP2'.out HBg.out)
                have HB2g := Lib.hid (SIn.up HB2'.out HBg.out)
                have HGg := Lib.hid (HGX.out.up (after HSI.out HBg.out))
                have HIg := Lib.hid (after HI.out HBg.out)
                generalize (wr.alloc (fO g (.slice A3 g.params.length c3) (.slice A4 g.body.length c4))) = wg at *
                have qy0 := fun d os => cell_regrown y0 d os
                have qy1 := fun d os => cell_regrown y1 d os
                have qy2 := fun d os => cell_regrown y2 d os
                have qy3 := fun d os => cell_regrown y3 d os
                have qy4 := fun d os => cell_regrown y4 d os
                have qz0 := fun d os => cell_regrown z0 d os
                have qz1 := fun d os => cell_regrown z1 d os
                have qz2 := fun d os => cell_regrown z2 d os
                have qz3 := fun d os => cell_regrown z3 d os
                have qz4 := fun d os => cell_regrown z4 d os
                have r1 := fun d os => Calls.regrown_of (d := d) (os := os) (sameFunc_calls f g HOF.out HOG.out _ _ _ _ _ (PR.up HP1g.out (below_regrown wg d os)) (SIn.up HB1g.out (below_regrown wg d os)) (PR.up HP2g.out (below_regrown wg d os)) (SIn.up HB2g.out (below_regrown wg d os)) (HGg.out.up (below_regrown wg d os)))
                have r2 := fun d os => Calls.regrown_of (d := d) (os := os) (refSameFunc_calls f g HOF.out HOG.out _ _ _ _ _ (PR.up HP1g.out (below_regrown wg d os)) (SIn.up HB1g.out (below_regrown wg d os)) (PR.up HP2g.out (below_regrown wg d os)) (SIn.up HB2g.out (below_regrown wg d os)))
                generalize sameFn f g = y at r1 r2
                have R1 := Lib.hid r1
                have R2 := Lib.hid r2
                have by1 : (y != y) = false := by simp
                have by2 : (y == y) = true := by simp
                clear r1 r2 x0 x1 x2 x3 x4 y0 y1 y2 y3 y4 z0 z1 z2 z3 z4
                go_wp2_with fail
                refine wp_region_quiet_below (by kernel_rfl) (by kernel_rfl) ?_
                repeat (first | go_big_quiet_step (first | with_reducible exact R1.out _ _ | with_reducible exact R2.out _ _) | quiet_step (first | with_reducible exact R1.out _ _ | with_reducible exact R2.out _ _))
                refine wpQuiet_nil ?_
                intro _ hw'
                obtain ⟨⟨dr, osr⟩, hw''⟩ := hw'
                subst hw''
                have HIr := Lib.hid (after HIg.out (below_regrown wg dr osr))
                clear qy0 qy1 qy2 qy3 qy4 qz0 qz1 qz2 qz3 qz4 R1 R2 by1 by2
                go_wp2_with fail
                go_roundw
                case rel => exact ⟨j + 1, by omega, by go_num, HIr⟩
                case measure => simp [intOf]; omega
              · obtain rfl : j = lq.length := by omega
                have k5 := (HSI.out.cell (p := ⟨B5, 0, none⟩) (cellLt H5c.out)).trans H5c.out
                have k6 := (HSI.out.cell (p := ⟨B6, 0, none⟩) (cellLt H6c.out)).trans H6c.out
                have k5 := fun d os => cell_regrown k5 d os
                have k6 := fun d os => cell_regrown k6 d os
                by_cases hn5 : n < (numbP lp).length
                · obtain ⟨ba, oa, va, vd, hAa, hbla, hoka, hcca, hpa, hba⟩ := HFA.out.at_ n hn5
                  obtain ⟨bb', ob, ve, vf, hAb, hblb, hokb, hccb, hpb, hbb⟩ := HFB.out.at_ n hn5
                  subst hAa hAb
                  obtain ⟨d0, d1, d2, d3, d4⟩ := hcca.keep (fun q => HSI.out.cell (p := ⟨ba, q, none⟩) hbla)
                  obtain ⟨f0, f1, f2, f3, f4⟩ := hccb.keep (fun q => HSI.out.cell (p := ⟨bb', q, none⟩) hblb)
                  clear hoka hcca hpa hba hokb hccb hpb hbb
                  clear d0 d1 d2 d3 f0 f1 f2 f3
                  have d4 := fun d os => cell_regrown d4 d os
                  have f4 := fun d os => cell_regrown f4 d os
                  generalize (numbP lp)[n] = z at *
                  have ln5 : ((n : Int) < ((numbP lp).length : Int)) := by omega
                  go_wp2_with fail
                  refine wp_region_quiet_below (by kernel_rfl) (by kernel_rfl) ?_
                  repeat (first | go_big_quiet_step (fail) | quiet_step (fail))
                  refine wpQuiet_nil ?_
                  intro _ hw'
                  obtain ⟨⟨dr, osr⟩, hw''⟩ := hw'
                  subst hw''
                  have HWr := Lib.hid (after HW.out (after HRI.out (below_regrown wr dr osr)))
                  go_wp2_with fail
                  go_roundw
                  case rel => exact ⟨n + 1, by omega, by go_num, HWr⟩
                  case measure => simp [intOf]; omega
                · have ln5 : ¬ ((n : Int) < ((numbP lp).length : Int)) := by omega
                  go_wp2_with fail
                  refine wp_region_quiet_below (by kernel_rfl) (by kernel_rfl) ?_
                  repeat (first | go_big_quiet_step (fail) | quiet_step (fail))
                  refine wpQuiet_nil ?_
                  intro _ hw'
                  obtain ⟨⟨dr, osr⟩, hw''⟩ := hw'
                  subst hw''
                  have HWr := Lib.hid (after HW.out (after HRI.out (below_regrown wr dr osr)))
                  go_wp2_with fail
                  go_roundw
                  case rel => exact ⟨n + 1, by omega, by go_num, HWr⟩
                  case measure => simp [intOf]; omega
          · obtain rfl : n = lp.length := by omega
            go_wp2_with fail
            refine (works_calls _ (HGX.out.up HW.out)).mono ?_
            rintro e w9 ⟨rfl, hb9⟩
            have HB9 := Lib.hid (after HBW.out hb9)
            clear hb9
            go_wp2_with fail
            go_ret
            exact ⟨rfl, HB9.out⟩
end Go.Proofs.YthiilnhiihfknaaDoor
