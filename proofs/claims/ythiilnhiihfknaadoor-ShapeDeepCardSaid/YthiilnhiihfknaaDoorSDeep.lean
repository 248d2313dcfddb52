/-
  ShapeDeep returns true.
-/
import Derived.Test.YthiilnhiihfknaaDoorSDeepS
import Derived.Test.YthiilnhiihfknaaDoorSNumOk
import Derived.RegionTactic
import Derived.ChangeAlike
import Derived.BigRegion
namespace Go.Proofs.YthiilnhiihfknaaDoor
open Go Go.RowKit Go.Sort

theorem BE.new (w : World) (e : Ex) (v : Value) : RowAt (w.alloc (eO e v)) w.heap.size 24 5 1 [eC e v] := by
  refine ⟨_, heap_alloc_new w _, rfl, Nat.le_refl _, fun r hr => ?_, fun i r j u hi hj => ?_⟩
  · simp only [List.mem_cons, List.not_mem_nil, or_false] at hr; subst hr; rfl
  · match i, hi with
    | 0, hi =>
      cases hi
      rw [Nat.zero_mul, Nat.zero_add, List.getElem?_toArray]
      exact hj
    | i + 1, hi => simp at hi
theorem BE.at_ {w : World} {b : Nat} {e : Ex} {v : Value} (h : RowAt w b 24 5 1 [eC e v]) : EBox w b e v := by
  have c := fun (j : Nat) u hj => RowAt.cell h (i := 0) (j := j) (u := u) (r := eC e v) rfl hj
  have c0 := c 0 _ rfl
  have c1 := c 1 _ rfl
  have c2 := c 2 _ rfl
  have c3 := c 3 _ rfl
  have c4 := c 4 _ rfl
  exact ⟨c0, c1, c2, c3, c4⟩
theorem BE.set5 {w : World} {g : Nat} {e : Ex} {v : Value} (h : RowAt w g 24 5 1 [eC e v]) (e' : Ex) (v' : Value) :
    RowAt (((((w.setCell ⟨g, 0, none⟩ (.int .i64 e'.kind)).setCell ⟨g, 1, none⟩ (.int .i64 e'.op)).setCell ⟨g, 2, none⟩ (.int .i64 e'.num)).setCell ⟨g, 3, none⟩ (.string (B e'.name))).setCell ⟨g, 4, none⟩ v') g 24 5 1 [eC e' v'] :=
  RowAt.set5 h (i := 0) (r := eC e v) rfl _ _ _ _ _
theorem set5_cell {w : World} {g b q : Nat} (h : b ≠ g) (u0 u1 u2 u3 u4 : Value) : (((((w.setCell ⟨g, 0, none⟩ u0).setCell ⟨g, 1, none⟩ u1).setCell ⟨g, 2, none⟩ u2).setCell ⟨g, 3, none⟩ u3).setCell ⟨g, 4, none⟩ u4).cell? ⟨b, q, none⟩ = w.cell? ⟨b, q, none⟩ := by
  rw [cell_set_ne h, cell_set_ne h, cell_set_ne h, cell_set_ne h, cell_set_ne h]
theorem set5_below {w w' : World} {g M : Nat} (h : Below M w w') (hg : M ≤ g) (u0 u1 u2 u3 u4 : Value) : Below M w (((((w'.setCell ⟨g, 0, none⟩ u0).setCell ⟨g, 1, none⟩ u1).setCell ⟨g, 2, none⟩ u2).setCell ⟨g, 3, none⟩ u3).setCell ⟨g, 4, none⟩ u4) :=
  ((((h.setCell hg u0).setCell hg u1).setCell hg u2).setCell hg u3).setCell hg u4
/-- One expression in a new row, among blocks that are not b. -/
theorem ER.one {w : World} {R : Nat → Prop} {g c : Nat} {e : Ex} {v : Value} (hg : R g) (ho : OkE e) (h : EBox w g e v) (hs : ER w R e.args v) : ER w R [e] (.slice (some ⟨g, 0, none⟩) 1 c) := by
  obtain ⟨c0, c1, c2, c3, c4⟩ := h
  refine .mk [e] (some ⟨g, 0, none⟩) c (fun _ => v) (by simp) (fun i x hx => ?_) (fun i x hx => ?_)
  · cases i with
    | zero => simp at hx; subst hx; exact ⟨g, 0, rfl, hg, ho, ⟨c0, c1, c2, c3, c4⟩⟩
    | succ i => simp at hx
  · cases i with
    | zero => simp at hx; subst hx; exact hs
    | succ i => simp at hx
theorem okE_eD (how : Nat) : ∀ i, OkE (eD how i) := by
  intro i
  cases i with
  | zero => exact ⟨by simp [eD, one1, okI], by simp [eD, one1, okI], by simp [eD, one1, okI], by simp [eD, one1]⟩
  | succ i =>
    show OkE (eN how (i + 1) (eD how i))
    unfold eN
    split
    · exact ⟨by simp [okI], by simp [okI], by simp [okI], by simp⟩
    · split
      · exact ⟨by simp [okI], by simp [okI], by simp [okI], by simp⟩
      · exact ⟨by simp [okI], by simp [okI], by simp [okI], by simp⟩
/-- The box's new expression over a new row. -/
theorem deep_round {w0 wr : World} {b : Nat} {e e' : Ex} {v : Value} (hX : RowAt wr b 24 5 1 [eC e v]) (hE : ER wr (fun x => x < wr.heap.size ∧ x ≠ b) e.args v) (hW : Below b w0 wr) (hb : b + 1 ≤ wr.heap.size) (ho : OkE e) (ha : e'.args = [e]) :
    let W := (((((wr.setCell ⟨b, 0, none⟩ (.int .i64 e'.kind)).setCell ⟨b, 1, none⟩ (.int .i64 e'.op)).setCell ⟨b, 2, none⟩ (.int .i64 e'.num)).setCell ⟨b, 3, none⟩ (.string (B e'.name))).setCell ⟨b, 4, none⟩ (.slice (some ⟨wr.heap.size, 0, none⟩) 1 1)).alloc (eO e v)
    RowAt W b 24 5 1 [eC e' (.slice (some ⟨wr.heap.size, 0, none⟩) 1 1)] ∧ ER W (fun x => x < W.heap.size ∧ x ≠ b) e'.args (.slice (some ⟨wr.heap.size, 0, none⟩) 1 1) ∧ Below b w0 W ∧ b + 1 ≤ W.heap.size := by
  intro W
  have hz : (((((wr.setCell ⟨b, 0, none⟩ (.int .i64 e'.kind)).setCell ⟨b, 1, none⟩ (.int .i64 e'.op)).setCell ⟨b, 2, none⟩ (.int .i64 e'.num)).setCell ⟨b, 3, none⟩ (.string (B e'.name))).setCell ⟨b, 4, none⟩ (.slice (some ⟨wr.heap.size, 0, none⟩) 1 1)).heap.size = wr.heap.size := by simp only [size_set]
  have hzW : W.heap.size = wr.heap.size + 1 := by show (World.alloc _ _).heap.size = _; rw [sz1, hz]
  have hbox := EBox.new (((((wr.setCell ⟨b, 0, none⟩ (.int .i64 e'.kind)).setCell ⟨b, 1, none⟩ (.int .i64 e'.op)).setCell ⟨b, 2, none⟩ (.int .i64 e'.num)).setCell ⟨b, 3, none⟩ (.string (B e'.name))).setCell ⟨b, 4, none⟩ (.slice (some ⟨wr.heap.size, 0, none⟩) 1 1)) e v
  rw [hz] at hbox
  refine ⟨(BE.set5 hX e' _).bel (bal _ _) (by rw [hz]; omega), ?_, (set5_below hW (Nat.le_refl _) _ _ _ _ _).alloc (by rw [hz]; omega) _, by rw [hzW]; omega⟩
  rw [ha]
  refine ER.one ⟨by rw [hzW]; omega, by omega⟩ ho hbox (hE.keep (fun x hx => ⟨by rw [hzW]; omega, hx.2⟩) fun x q hx => ?_)
  exact ((bal _ _).cell (p := ⟨x, q, none⟩) (by rw [hz]; exact hx.1)).trans (set5_cell hx.2 _ _ _ _ _)
/-- The box's new expression, out of what a call made. -/
theorem deep_fin {w0 wr w4 : World} {b : Nat} {e e' : Ex} {v v4 : Value} (hX : RowAt wr b 24 5 1 [eC e v]) (hW : Below b w0 wr) (hb : b + 1 ≤ wr.heap.size) (h4 : Below wr.heap.size wr w4) (hE : ER w4 (fun x => x < w4.heap.size ∧ x ≠ b) e'.args v4) :
    let W := ((((w4.setCell ⟨b, 0, none⟩ (.int .i64 e'.kind)).setCell ⟨b, 1, none⟩ (.int .i64 e'.op)).setCell ⟨b, 2, none⟩ (.int .i64 e'.num)).setCell ⟨b, 3, none⟩ (.string (B e'.name))).setCell ⟨b, 4, none⟩ v4
    RowAt W b 24 5 1 [eC e' v4] ∧ ER W (fun x => x < W.heap.size ∧ x ≠ b) e'.args v4 ∧ Below b w0 W ∧ b + 1 ≤ W.heap.size := by
  intro W
  have hzW : W.heap.size = w4.heap.size := by show (World.setCell _ _ _).heap.size = _; simp only [size_set]
  have hz4 := h4.size
  refine ⟨BE.set5 (hX.bel h4 (by omega)) e' _, hE.keep (fun x hx => ⟨by rw [hzW]; exact hx.1, hx.2⟩) fun x q hx => set5_cell hx.2 _ _ _ _ _, set5_below (hW.trans (h4.mono (by omega))) (Nat.le_refl _) _ _ _ _ _, by rw [hzW]; omega⟩

/-- Two expressions in a new row, over blocks R. -/
theorem ER.two {w w' : World} {R : Nat → Prop} {g c : Nat} {a b : Ex} {va vb : Value} (ha : OkE a) (hb : OkE b) (h1 : ER w R a.args va) (h2 : ER w R b.args vb) (hk : ∀ x i, R x → w'.cell? ⟨x, i, none⟩ = w.cell? ⟨x, i, none⟩) (hg : ∀ (i : Nat) (u : Value), (eC a va ++ eC b vb)[i]? = some u → w'.cell? ⟨g, i, none⟩ = some u) {R' : Nat → Prop} (hR : ∀ x, R x → R' x) (hgR : R' g) :
    ER w' R' [a, b] (.slice (some ⟨g, 0, none⟩) 2 c) := by
  refine .mk [a, b] (some ⟨g, 0, none⟩) c (fun i => if i = 0 then va else vb) (by simp) (fun i e he => ?_) (fun i e he => ?_)
  · match i, he with
    | 0, he => cases he; exact ⟨_, 0, rfl, hgR, ha, ⟨hg 0 _ rfl, hg 1 _ rfl, hg 2 _ rfl, hg 3 _ rfl, hg 4 _ rfl⟩⟩
    | 1, he => cases he; exact ⟨_, 0, rfl, hgR, hb, ⟨hg 5 _ rfl, hg 6 _ rfl, hg 7 _ rfl, hg 8 _ rfl, hg 9 _ rfl⟩⟩
    | i + 2, he => simp at he
  · match i, he with
    | 0, he => cases he; exact h1.keep hR hk
    | 1, he => cases he; exact h2.keep hR hk
    | i + 2, he => simp at he
def BinQ (op : Int) (a b : Ex) (R : Nat → Prop) (w : World) (e : Ending) (w' : World) : Prop := ∃ A, e = .returned (eV ⟨5, op, 0, [], [a, b]⟩ (.slice (some A) 2 2)) ∧ Below w.heap.size w w' ∧ ER w' (fun x => R x ∨ (w.heap.size ≤ x ∧ x < w'.heap.size)) [a, b] (.slice (some A) 2 2)
set_option maxHeartbeats 1000000 in
theorem binaryQ_calls (op : Int) (a b : Ex) (ha : OkE a) (hb : OkE b) (va vb : Value) (w : World) (R : Nat → Prop) (hR : ∀ x, R x → x < w.heap.size) (h1 : ER w R a.args va) (h2 : ER w R b.args vb) :
    Calls Tryd.prog 39 #[.int .i64 op, eV a va, eV b vb] w (BinQ op a b R w) := by
  obtain ⟨A1, c1, rfl⟩ := h1.slice
  obtain ⟨A2, c2, rfl⟩ := h2.slice
  have H1 := Lib.hid h1
  have H2 := Lib.hid h2
  have HR := Lib.hid hR
  clear h1 h2 hR
  go_enter Tryd.func39, Tryd.ntmps39
  go_wp2_with fail
  have hb2 := bal3 w (eO a (.slice A1 a.args.length c1)) (eO b (.slice A2 b.args.length c2)) (.cells #[.int .i64 5, .int .i64 op, .int .i64 0, .string ⟨#[]⟩, .slice (some ⟨w.heap.size + 1 + 1 + 1, 0, none⟩) 2 2] 24)
  refine bodyPost_ret (v := eV ⟨5, op, 0, [], [a, b]⟩ (.slice (some ⟨w.heap.size + 1 + 1 + 1, 0, none⟩) 2 2)) (by simp [results, Tryd.results39, go_sem]) rfl ⟨_, rfl, hb2.alloc hb2.size _, ?_⟩
  refine ER.two (w := w) (R := R) ha hb H1.out H2.out (fun x i hx => (hb2.alloc hb2.size _).cell (p := ⟨x, i, none⟩) (HR.out x hx)) (fun i u hi => ?_) (fun x hx => .inl hx) (.inr ⟨by omega, by simp⟩)
  have := newCell (((w.alloc (eO a (.slice A1 a.args.length c1))).alloc (eO b (.slice A2 b.args.length c2))).alloc (.cells #[.int .i64 5, .int .i64 op, .int .i64 0, .string ⟨#[]⟩, .slice (some ⟨w.heap.size + 1 + 1 + 1, 0, none⟩) 2 2] 24)) (eC a (.slice A1 a.args.length c1) ++ eC b (.slice A2 b.args.length c2)).toArray 24 i u (by rw [List.getElem?_toArray]; exact hi)
  rwa [sz1, sz1, sz1] at this

set_option maxRecDepth 100000 in
set_option maxHeartbeats 20000000 in
theorem shapeDeep_calls (n : Nat) (hn : n ≤ 255) (hw : Nat) (hhw : hw ≤ 255) (w : World) (hG : Glob w) :
    Calls Tryd.prog 9 #[.int .u8 (n : Int), .int .u8 (hw : Int)] w fun e w' => e = .returned (.bool true) ∧ Below w.heap.size w w' := by
  have HG := Lib.hid hG
  clear hG
  obtain ⟨q, hq, hq2⟩ : ∃ q : Nat, (n : Int) % 30 = (q : Int) ∧ q < 30 := ⟨n % 30, by omega, by omega⟩
  go_enter Tryd.func9, Tryd.ntmps9
  go_wp2_with fail
  refine (num_calls 7 _).mono ?_
  rintro e w1 ⟨rfl, hb⟩
  have HB1 := Lib.hid hb
  clear hb
  go_wp2_with fail
  have X0 := EBox.new w1 (one1 7) (.slice none 0 0)
  have HZ1 := HB1.out.size
  clear hq
  go_loopw [7] (fun c wr => ∃ (i : Nat) (v : Value), i ≤ q ∧ c = .int .i64 ((i : Int) + 1) ∧ Hid (RowAt wr w1.heap.size 24 5 1 [eC (eD hw i) v]) ∧ Hid (ER wr (fun b => b < wr.heap.size ∧ b ≠ w1.heap.size) (eD hw i).args v) ∧ Hid (Below w1.heap.size w1 wr) ∧ w1.heap.size + 1 ≤ wr.heap.size) (fun c _ => q + 1 - (intOf c).toNat)
  case atStart => exact ⟨0, .slice none 0 0, by omega, rfl, Lib.hid (BE.new w1 (one1 7) (.slice none 0 0)), Lib.hid (ER.nil _ _), Lib.hid (bal _ _), by rw [sz1]; exact Nat.le_refl _⟩
  case round =>
    obtain ⟨i, v, hi, rfl, HX, HE, HW, hsz⟩ := hrel
    obtain ⟨x0, x1, x2, x3, x4⟩ := BE.at_ HX.out
    have xf := HX.out.free
    have hne1 : w1.heap.size ≠ wr.heap.size := by omega
    have hlt1 : w1.heap.size < wr.heap.size := by omega
    obtain ⟨va, vc, rfl⟩ := HE.out.slice
    by_cases hlt : i < q
    · obtain ⟨y, hy, hy2⟩ : ∃ y : Nat, (hw : Int) / 2 ^ ((i + 1) % 8) = (y : Int) ∧ y = hw >>> ((i + 1) % 8) := ⟨hw >>> ((i + 1) % 8), by rw [Nat.shiftRight_eq_div_pow]; simp, rfl⟩
      have HY := Lib.hid hy2
      clear hy2
      have hm3 : y % 3 = 0 ∨ y % 3 = 1 ∨ y % 3 = 2 := by omega
      rcases hm3 with hm | hm | hm
      · have hm' : (y : Int) % 3 = 0 := by omega
        have HEN := Lib.hid (show eD hw (i + 1) = ⟨4, 14, 0, [], [eD hw i]⟩ by show eN hw (i + 1) (eD hw i) = _; unfold eN; rw [← HY.out, if_pos hm])
        have HR := Lib.hid (fun e' (h : e'.args = [eD hw i]) => deep_round (e' := e') HX.out HE.out HW.out hsz (okE_eD hw i) h)
        clear hm
        generalize eD hw i = e at *
        go_wp2_with fail
        obtain ⟨R1, R2, R3, R4⟩ := HR.out ⟨4, 14, 0, [], [e]⟩ rfl
        go_roundw
        case rel => exact ⟨i + 1, _, by omega, by go_num, Lib.hid (by rw [HEN.out]; exact R1), Lib.hid (by rw [HEN.out]; exact R2), Lib.hid R3, R4⟩
        case measure => simp [intOf]; omega
      · have hm' : (y : Int) % 3 = 1 := by omega
        have HEN := Lib.hid (show eD hw (i + 1) = ⟨5, 3, 0, [], [eD hw i, one1 1]⟩ by show eN hw (i + 1) (eD hw i) = _; unfold eN; rw [← HY.out, if_neg (by omega), if_pos hm])
        have HOE := Lib.hid (okE_eD hw i)
        have HCB := Lib.hid (fun W (h : Below wr.heap.size wr W) => binaryQ_calls 3 (eD hw i) (one1 1) HOE.out (okE_one 1 (by omega) (by omega)) _ (.slice none 0 0) W (fun x => x < wr.heap.size ∧ x ≠ w1.heap.size) (fun x hx => Nat.lt_of_lt_of_le hx.1 h.size) (HE.out.keep (fun x hx => hx) fun x q hx => h.cell (p := ⟨x, q, none⟩) hx.1) (ER.nil _ _))
        have HCN := Lib.hid (fun W => num_calls 1 W)
        have HF := Lib.hid (fun (w4 : World) (v4 : Value) h4 hE4 => deep_fin (e' := ⟨5, 3, 0, [], [eD hw i, one1 1]⟩) (w4 := w4) (v4 := v4) HX.out HW.out hsz h4 hE4)
        have HXB := Lib.hid (fun W (h : Below wr.heap.size wr W) => HX.out.bel h hlt1)
        clear hm
        generalize eD hw i = e at *
        go_wp2_with fail
        go_region_with (first | (go_at_call 37; refine (HCN.out _).mono ?_; rintro e1 w3 ⟨rfl, hb3⟩; have HX3 := HXB.out w3 ⟨hb3.os, hb3.tape, hb3.output, hb3.size, hb3.block⟩; obtain ⟨z0, z1, z2, z3, z4⟩ := BE.at_ HX3; clear HX3) | (go_at_call 39; refine (HCB.out _ ⟨hb3.os, hb3.tape, hb3.output, hb3.size, hb3.block⟩).mono ?_; rintro e2 w4 ⟨A4, rfl, hb4, hE4⟩; have HX4 := HXB.out w4 ((show Below wr.heap.size wr w3 from ⟨hb3.os, hb3.tape, hb3.output, hb3.size, hb3.block⟩).trans (hb4.mono hb3.size)); obtain ⟨y0, y1, y2, y3, y4⟩ := BE.at_ HX4; have yf := HX4.free; clear HX4))
        all_goals
          have hz3 : wr.heap.size ≤ w3.heap.size := hb3.size
          have hz4 := hb4.size
          have HQ := Lib.hid (HF.out w4 (.slice (some A4) 2 2) ((show Below wr.heap.size wr w3 from ⟨hb3.os, hb3.tape, hb3.output, hb3.size, hb3.block⟩).trans (hb4.mono hz3)) (hE4.keep (fun x hx => by rcases hx with hx | hx; exact ⟨by omega, hx.2⟩; exact ⟨hx.2, by omega⟩) fun _ _ _ => rfl))
          clear hb3 hb4 hE4 x0 x1 x2 x3 x4 xf y0 y1 y2 y3 y4 yf z0 z1 z2 z3 z4
          go_wp2_with fail
          obtain ⟨R1, R2, R3, R4⟩ := HQ.out
          go_roundw
          case rel => exact ⟨i + 1, _, by omega, by go_num, Lib.hid (by rw [HEN.out]; exact R1), Lib.hid (by rw [HEN.out]; exact R2), Lib.hid R3, R4⟩
          case measure => simp [intOf]; omega
      · have hm' : (y : Int) % 3 = 2 := by omega
        have HEN := Lib.hid (show eD hw (i + 1) = ⟨6, 0, 0, [97], [eD hw i]⟩ by show eN hw (i + 1) (eD hw i) = _; unfold eN; rw [← HY.out, if_neg (by omega), if_neg (by omega)])
        have HR := Lib.hid (fun e' (h : e'.args = [eD hw i]) => deep_round (e' := e') HX.out HE.out HW.out hsz (okE_eD hw i) h)
        clear hm
        generalize eD hw i = e at *
        go_wp2_with fail
        obtain ⟨R1, R2, R3, R4⟩ := HR.out ⟨6, 0, 0, [97], [e]⟩ rfl
        go_roundw
        case rel => exact ⟨i + 1, _, by omega, by go_num, Lib.hid (by rw [HEN.out]; exact R1), Lib.hid (by rw [HEN.out]; exact R2), Lib.hid R3, R4⟩
        case measure => simp [intOf]; omega
    · obtain rfl : i = q := by omega
      have HDE := Lib.hid (dep_eD hw i 20)
      have HOE := Lib.hid (okE_eD hw i)
      generalize eD hw i = e at *
      go_wp2_with fail
      refine (num_calls 1 _).mono ?_
      rintro e' w5 ⟨rfl, hb5⟩
      have HB5 := Lib.hid hb5
      have hz5 := hb5.size
      clear hb5 x0 x1 x2 x3 x4 xf hne1 hlt1
      go_wp2_with fail
      have hA := EBox.new w5 (one1 1) (.slice none 0 0)
      have hS : StI (w5.heap.size + 1) (sD hw 0) ((w5.alloc (eO (one1 1) (.slice none 0 0))).alloc (sO (sD hw 0) (.slice (some ⟨w5.heap.size, 0, none⟩) 1 1) (.slice none 0 0) (.slice none 0 0))) (.slice (some ⟨w5.heap.size, 0, none⟩) 1 1) (.slice none 0 0) (.slice none 0 0) := by
        have := BX.new (w5.alloc (eO (one1 1) (.slice none 0 0))) (sD hw 0) (.slice (some ⟨w5.heap.size, 0, none⟩) 1 1) (.slice none 0 0) (.slice none 0 0)
        rw [sz1] at this
        exact ⟨this, ER.one' ⟨by rw [sz1, sz1]; omega, by omega⟩ (okE_one 1 (by omega) (by omega)) (hA.keep (bal _ _) (by rw [sz1]; omega)) (ER.nil _ _), SR.nil _ _, SR.nil _ _⟩
      have HS := Lib.hid hS
      have HZS := Lib.hid (show ((w5.alloc (eO (one1 1) (.slice none 0 0))).alloc (sO (sD hw 0) (.slice (some ⟨w5.heap.size, 0, none⟩) 1 1) (.slice none 0 0) (.slice none 0 0))).heap.size = w5.heap.size + 2 by rw [sz1, sz1])
      have HWS := Lib.hid (bal2 w5 (eO (one1 1) (.slice none 0 0)) (sO (sD hw 0) (.slice (some ⟨w5.heap.size, 0, none⟩) 1 1) (.slice none 0 0) (.slice none 0 0)))
      clear hS hA
      have hz6 := HZS.out
      have hw6 := HWS.out
      generalize wr = wo at *
      clear wr
      go_loopw [9] (fun c wt => ∃ (j : Nat) (va vb ve : Value), j ≤ i ∧ c = .int .i64 ((j : Int) + 1) ∧ Hid (StI (w5.heap.size + 1) (sD hw j) wt va vb ve) ∧ Hid (Below w5.heap.size w5 wt) ∧ w5.heap.size + 2 ≤ wt.heap.size) (fun c _ => i + 1 - (intOf c).toNat)
      case atStart => exact ⟨0, _, _, _, by omega, rfl, HS, HWS, Nat.le_of_eq hz6.symm⟩
      case round =>
        obtain ⟨j, va, vb, ve, hj, rfl, HJ, HWt, hst⟩ := hrel
        obtain ⟨y0, y1, y2, y3, y4, y5, y6, y7⟩ := BX.at_ HJ.out.1
        have yf := HJ.out.1.free
        have hne : w5.heap.size + 1 ≠ wr.heap.size := by omega
        have hlt : w5.heap.size + 1 < wr.heap.size := by omega
        obtain ⟨Aa, ca, rfl⟩ := HJ.out.2.1.slice
        obtain ⟨Ab, cb, rfl⟩ := HJ.out.2.2.1.slice
        obtain ⟨Ae, ce, rfl⟩ := HJ.out.2.2.2.slice
        by_cases hji : j < i
        · obtain ⟨y, hy, hy2⟩ : ∃ y : Nat, (hw : Int) / 2 ^ ((j + 1) % 8) = (y : Int) ∧ y = hw >>> ((j + 1) % 8) := ⟨hw >>> ((j + 1) % 8), by rw [Nat.shiftRight_eq_div_pow]; simp, rfl⟩
          have hy256 : y < 256 := by rw [hy2, Nat.shiftRight_eq_div_pow]; exact Nat.lt_of_le_of_lt (Nat.div_le_self _ _) (by omega)
          have HY := Lib.hid hy2
          have hbit := bits_one y hy256
          clear hy2
          have HOS := Lib.hid (okS_sD hw j)
          have HXB := Lib.hid (fun W (h : Below wr.heap.size wr W) => HJ.out.1.bel h hlt)
          have HCN := Lib.hid (fun W => num_calls 1 W)
          have hm2 : y % 2 = 1 ∨ y % 2 = 0 := by omega
          rcases hm2 with hm | hm
          · have HSN := Lib.hid (show sD hw (j + 1) = ⟨10, 0, [], 0, [], [one1 1], [sD hw j], []⟩ by show sN hw (j + 1) (sD hw j) = _; unfold sN; rw [← HY.out, if_pos hm])
            have hb1 : (bits BinOp.and IntKind.u8 (y : Int) 1 == 1) = true := by rw [hbit, hm]; rfl
            have HQA := Lib.hid (fun w3 h3 => st_A (w3 := w3) (s' := ⟨10, 0, [], 0, [], [one1 1], [sD hw j], []⟩) (va' := .slice (some ⟨w3.heap.size, 0, none⟩) 1 1) (vb' := .slice (some ⟨w3.heap.size + 1, 0, none⟩) 1 1) (ve' := .slice none 0 0) HJ.out HOS.out HWt.out (Nat.le_succ _) hst h3 ⟨rfl, rfl, .inl ⟨rfl, rfl, rfl, rfl⟩⟩)
            have HQB := Lib.hid (fun w3 h3 => st_B (w3 := w3) (s' := ⟨10, 0, [], 0, [], [one1 1], [sD hw j], []⟩) (va' := .slice (some ⟨w3.heap.size + 1, 0, none⟩) 1 1) (vb' := .slice (some ⟨w3.heap.size, 0, none⟩) 1 1) (ve' := .slice none 0 0) HJ.out HOS.out HWt.out (Nat.le_succ _) hst h3 ⟨rfl, rfl, .inl ⟨rfl, rfl, rfl, rfl⟩⟩)
            have HQC := Lib.hid (fun w3 h3 => st_C (w3 := w3) (s' := ⟨10, 0, [], 0, [], [one1 1], [sD hw j], []⟩) (va' := .slice (some ⟨w3.heap.size, 0, none⟩) 1 1) (vb' := .slice (some ⟨wr.heap.size, 0, none⟩) 1 1) (ve' := .slice none 0 0) HJ.out HOS.out HWt.out (Nat.le_succ _) hst h3 ⟨rfl, rfl, .inl ⟨rfl, rfl, rfl, rfl⟩⟩)
            clear hbit hm
            generalize sD hw j = s at *
            go_wp2_with fail
            go_region_with (go_at_call 37; refine (HCN.out _).mono ?_; rintro e1 w3 ⟨rfl, hb3⟩; have HB3 : Below wr.heap.size wr w3 := (by first | exact ⟨hb3.os, hb3.tape, hb3.output, hb3.size, hb3.block⟩ | exact (bal wr _).trans (Below.mono ⟨hb3.os, hb3.tape, hb3.output, hb3.size, hb3.block⟩ (by simp))); have HX3 := HXB.out w3 HB3; obtain ⟨z0, z1, z2, z3, z4, z5, z6, z7⟩ := BX.at_ HX3; have zf := HX3.free; have hlt3 : w5.heap.size + 1 < w3.heap.size := Nat.lt_of_lt_of_le hlt HB3.size; have hne3 : w5.heap.size + 1 ≠ w3.heap.size := Nat.ne_of_lt hlt3; have hne4 : w5.heap.size ≠ w3.heap.size := Nat.ne_of_lt (Nat.lt_of_succ_lt hlt3); have hlt4 : w5.heap.size < w3.heap.size := Nat.lt_of_succ_lt hlt3; clear HX3)
            all_goals
              have HB3' := Lib.hid HB3
              have Hb3 := Lib.hid hb3
              clear z0 z1 z2 z3 z4 z5 z6 z7 zf hne3 hne4 hlt3 hlt4 HB3 hb3 y0 y1 y2 y3 y4 y5 y6 y7 yf
              go_wp2_with fail
            · obtain ⟨R1, R2, R3⟩ := HQA.out w3 HB3'.out
              go_roundw
              case rel => exact ⟨j + 1, _, _, _, by omega, by go_num, Lib.hid (by rw [HSN.out]; exact R1), Lib.hid R2, R3⟩
              case measure => simp [intOf]; omega
            · obtain ⟨R1, R2, R3⟩ := HQA.out w3 HB3'.out
              go_roundw
              case rel => exact ⟨j + 1, _, _, _, by omega, by go_num, Lib.hid (by rw [HSN.out]; exact R1), Lib.hid R2, R3⟩
              case measure => simp [intOf]; omega
            · obtain ⟨R1, R2, R3⟩ := HQB.out w3 HB3'.out
              go_roundw
              case rel => exact ⟨j + 1, _, _, _, by omega, by go_num, Lib.hid (by rw [HSN.out]; exact R1), Lib.hid R2, R3⟩
              case measure => simp [intOf]; omega
            · obtain ⟨R1, R2, R3⟩ := HQA.out w3 HB3'.out
              go_roundw
              case rel => exact ⟨j + 1, _, _, _, by omega, by go_num, Lib.hid (by rw [HSN.out]; exact R1), Lib.hid R2, R3⟩
              case measure => simp [intOf]; omega
            · obtain ⟨R1, R2, R3⟩ := HQB.out w3 HB3'.out
              go_roundw
              case rel => exact ⟨j + 1, _, _, _, by omega, by go_num, Lib.hid (by rw [HSN.out]; exact R1), Lib.hid R2, R3⟩
              case measure => simp [intOf]; omega
            · obtain ⟨R1, R2, R3⟩ := HQC.out w3 ⟨Hb3.out.os, Hb3.out.tape, Hb3.out.output, Hb3.out.size, fun k hk => Hb3.out.block k (by simpa using hk)⟩
              go_roundw
              case rel => exact ⟨j + 1, _, _, _, by omega, by go_num, Lib.hid (by rw [HSN.out]; exact R1), Lib.hid R2, R3⟩
              case measure => simp [intOf]; omega
          · have HSN := Lib.hid (show sD hw (j + 1) = ⟨9, 0, [], 0, [], [one1 1], [], [sD hw j]⟩ by show sN hw (j + 1) (sD hw j) = _; unfold sN; rw [← HY.out, if_neg (by omega)])
            have hb1 : (bits BinOp.and IntKind.u8 (y : Int) 1 == 1) = false := by rw [hbit, hm]; rfl
            have HQA := Lib.hid (fun w3 h3 => st_A (w3 := w3) (s' := ⟨9, 0, [], 0, [], [one1 1], [], [sD hw j]⟩) (va' := .slice (some ⟨w3.heap.size, 0, none⟩) 1 1) (vb' := .slice none 0 0) (ve' := .slice (some ⟨w3.heap.size + 1, 0, none⟩) 1 1) HJ.out HOS.out HWt.out (Nat.le_succ _) hst h3 ⟨rfl, rfl, .inr ⟨rfl, rfl, rfl, rfl⟩⟩)
            have HQB := Lib.hid (fun w3 h3 => st_B (w3 := w3) (s' := ⟨9, 0, [], 0, [], [one1 1], [], [sD hw j]⟩) (va' := .slice (some ⟨w3.heap.size + 1, 0, none⟩) 1 1) (vb' := .slice none 0 0) (ve' := .slice (some ⟨w3.heap.size, 0, none⟩) 1 1) HJ.out HOS.out HWt.out (Nat.le_succ _) hst h3 ⟨rfl, rfl, .inr ⟨rfl, rfl, rfl, rfl⟩⟩)
            have HQC := Lib.hid (fun w3 h3 => st_C (w3 := w3) (s' := ⟨9, 0, [], 0, [], [one1 1], [], [sD hw j]⟩) (va' := .slice (some ⟨w3.heap.size, 0, none⟩) 1 1) (vb' := .slice none 0 0) (ve' := .slice (some ⟨wr.heap.size, 0, none⟩) 1 1) HJ.out HOS.out HWt.out (Nat.le_succ _) hst h3 ⟨rfl, rfl, .inr ⟨rfl, rfl, rfl, rfl⟩⟩)
            clear hbit hm
            generalize sD hw j = s at *
            go_wp2_with fail
            go_region_with (go_at_call 37; refine (HCN.out _).mono ?_; rintro e1 w3 ⟨rfl, hb3⟩; have HB3 : Below wr.heap.size wr w3 := (by first | exact ⟨hb3.os, hb3.tape, hb3.output, hb3.size, hb3.block⟩ | exact (bal wr _).trans (Below.mono ⟨hb3.os, hb3.tape, hb3.output, hb3.size, hb3.block⟩ (by simp))); have HX3 := HXB.out w3 HB3; obtain ⟨z0, z1, z2, z3, z4, z5, z6, z7⟩ := BX.at_ HX3; have zf := HX3.free; have hlt3 : w5.heap.size + 1 < w3.heap.size := Nat.lt_of_lt_of_le hlt HB3.size; have hne3 : w5.heap.size + 1 ≠ w3.heap.size := Nat.ne_of_lt hlt3; have hne4 : w5.heap.size ≠ w3.heap.size := Nat.ne_of_lt (Nat.lt_of_succ_lt hlt3); have hlt4 : w5.heap.size < w3.heap.size := Nat.lt_of_succ_lt hlt3; clear HX3)
            all_goals
              have HB3' := Lib.hid HB3
              have Hb3 := Lib.hid hb3
              clear z0 z1 z2 z3 z4 z5 z6 z7 zf hne3 hne4 hlt3 hlt4 HB3 hb3 y0 y1 y2 y3 y4 y5 y6 y7 yf
              go_wp2_with fail
            · obtain ⟨R1, R2, R3⟩ := HQA.out w3 HB3'.out
              go_roundw
              case rel => exact ⟨j + 1, _, _, _, by omega, by go_num, Lib.hid (by rw [HSN.out]; exact R1), Lib.hid R2, R3⟩
              case measure => simp [intOf]; omega
            · obtain ⟨R1, R2, R3⟩ := HQA.out w3 HB3'.out
              go_roundw
              case rel => exact ⟨j + 1, _, _, _, by omega, by go_num, Lib.hid (by rw [HSN.out]; exact R1), Lib.hid R2, R3⟩
              case measure => simp [intOf]; omega
            · obtain ⟨R1, R2, R3⟩ := HQB.out w3 HB3'.out
              go_roundw
              case rel => exact ⟨j + 1, _, _, _, by omega, by go_num, Lib.hid (by rw [HSN.out]; exact R1), Lib.hid R2, R3⟩
              case measure => simp [intOf]; omega
            · obtain ⟨R1, R2, R3⟩ := HQA.out w3 HB3'.out
              go_roundw
              case rel => exact ⟨j + 1, _, _, _, by omega, by go_num, Lib.hid (by rw [HSN.out]; exact R1), Lib.hid R2, R3⟩
              case measure => simp [intOf]; omega
            · obtain ⟨R1, R2, R3⟩ := HQB.out w3 HB3'.out
              go_roundw
              case rel => exact ⟨j + 1, _, _, _, by omega, by go_num, Lib.hid (by rw [HSN.out]; exact R1), Lib.hid R2, R3⟩
              case measure => simp [intOf]; omega
            · obtain ⟨R1, R2, R3⟩ := HQC.out w3 ⟨Hb3.out.os, Hb3.out.tape, Hb3.out.output, Hb3.out.size, fun k hk => Hb3.out.block k (by simpa using hk)⟩
              go_roundw
              case rel => exact ⟨j + 1, _, _, _, by omega, by go_num, Lib.hid (by rw [HSN.out]; exact R1), Lib.hid R2, R3⟩
              case measure => simp [intOf]; omega
        · obtain rfl : j = i := by omega
          have hz7 := HWt.out.size
          have hbs := BX.at_ HJ.out.1
          obtain ⟨y0, y1, y2, y3, y4, y5, y6, y7⟩ := hbs
          have HSB := Lib.hid (show ∀ c, SIn (wr.alloc (sO (sD hw j) (.slice Aa (sD hw j).args.length ca) (.slice Ab (sD hw j).body.length cb) (.slice Ae (sD hw j).els.length ce))) (wr.alloc (sO (sD hw j) (.slice Aa (sD hw j).args.length ca) (.slice Ab (sD hw j).body.length cb) (.slice Ae (sD hw j).els.length ce))).heap.size [sD hw j] (.slice (some ⟨wr.heap.size, 0, none⟩) 1 c) from fun c => SIn.fresh rfl (okS_sD hw j) (HJ.out.2.1.keep (fun x h => h.1) fun _ _ _ => rfl) (HJ.out.2.2.1.keep (fun x h => h.1) fun _ _ _ => rfl) (HJ.out.2.2.2.keep (fun x h => h.1) fun _ _ _ => rfl))
          have hFF : ∀ c, FIn ((wr.alloc (sO (sD hw j) (.slice Aa (sD hw j).args.length ca) (.slice Ab (sD hw j).body.length cb) (.slice Ae (sD hw j).els.length ce))).alloc (fO ⟨[109, 97, 105, 110], [], 0, [sD hw j], 0⟩ (.slice none 0 0) (.slice (some ⟨wr.heap.size, 0, none⟩) 1 1))) ((wr.alloc (sO (sD hw j) (.slice Aa (sD hw j).args.length ca) (.slice Ab (sD hw j).body.length cb) (.slice Ae (sD hw j).els.length ce))).alloc (fO ⟨[109, 97, 105, 110], [], 0, [sD hw j], 0⟩ (.slice none 0 0) (.slice (some ⟨wr.heap.size, 0, none⟩) 1 1))).heap.size [⟨[109, 97, 105, 110], [], 0, [sD hw j], 0⟩] (.slice (some ⟨wr.heap.size + 1, 0, none⟩) 1 c) := fun c => FIn.fresh (by rw [sz1]) ⟨by simp, by simp [okI], by simp [okI]⟩ (PR.nil _ _) (HSB.out 1)
          have HFF := Lib.hid hFF
          have HGr := Lib.hid (HG.out.up (after (after (after HB1.out HW.out) HB5.out) HWt.out))
          clear hFF
          have hRL : rightL [sD hw j] = decide (j < 20) := rightL_sD hw j (by omega)
          have HOS := Lib.hid (okS_sD hw j)
          generalize sD hw j = s at *
          have hfn : fnsB [⟨[109, 97, 105, 110], [], 0, [s], 0⟩] = decide (j < 20) := by
            have hm : nameB [109, 97, 105, 110] = true := by decide
            simp [fnsB, fnB, pasB, hm, hRL]
          by_cases hk : j < 20
          · have hdn : (dep 20 e : Nat) = j + 1 := by rw [HDE.out, if_pos hk]
            have hex : exB e = true := by simp [exB, hdn]
            have HSE := Lib.hid (show sameE e e = true by simp [sameE, hex, eqE])
            have HSS := Lib.hid (show sameSt s s = true by simp [sameSt, hRL, hk, eqSt])
            have hdi : ((dep 20 e : Nat) : Int) = 1 + (j : Int) := by omega
            have hnp : numbP [⟨[109, 97, 105, 110], [], 0, [s], 0⟩] = [numbF ⟨[109, 97, 105, 110], [], 0, [s], 0⟩] := by simp [numbP, hfn, hk]
            have hk1 : 1 + (j : Int) ≤ 20 := by omega
            have HEX := Lib.hid hex
            have HDI := Lib.hid hdi
            have HCK := Lib.hid (checkB_numbP [⟨[109, 97, 105, 110], [], 0, [s], 0⟩])
            have hln : (numbP [⟨[109, 97, 105, 110], [], 0, [s], 0⟩]).length = 1 := by rw [hnp]; rfl
            clear hdn hex hdi hnp hfn hRL
            go_wp2_with fail
            refine (number_all [⟨[109, 97, 105, 110], [], 0, [s], 0⟩] _ _ (HFF.out 1) (HGr.out.up (bal2 wr _ _))).mono ?_
            rintro er w8 hNP
            obtain ⟨vp, rfl, hb8, hF8⟩ := hNP.fr (by omega)
            have hfin : FIn w8 w8.heap.size _ vp := hF8.keep (fun x h => h.2) fun _ _ _ => rfl
            obtain ⟨Ap, cp, rfl⟩ := hfin.slice
            have HB8 := Lib.hid (after (bal2 wr _ _) hb8)
            generalize numbP [⟨[109, 97, 105, 110], [], 0, [s], 0⟩] = l at *
            rw [hln] at hfin ⊢
            have D : DF w1.heap.size (w5.heap.size + 1) w8.heap.size e (.slice va e.args.length vc) s (.slice Aa s.args.length ca) (.slice Ab s.body.length cb) (.slice Ae s.els.length ce) l (.slice Ap 1 cp) (w8.alloc (.cells #[.slice Ap 1 cp] 35)) := by
              have b1 : Below wo.heap.size wo wr := after HB5.out HWt.out
              have b2 : Below wr.heap.size wr (w8.alloc (.cells #[.slice Ap 1 cp] 35)) := after HB8.out (bal _ _)
              refine ⟨HGr.out.up b2, HX.out.bel (after b1 b2) HX.out.lt, ?_, HJ.out.1.bel b2 HJ.out.1.lt, ?_, ?_, ?_, heap_alloc_new _ _, hfin.al _⟩
              · exact EIn.up (HE.out.keep (R' := fun x => x < wo.heap.size) (fun x h => h.1) fun _ _ _ => rfl) (after b1 b2)
              · exact EIn.up (HJ.out.2.1.keep (R' := fun x => x < wr.heap.size) (fun x h => h.1) fun _ _ _ => rfl) b2
              · exact SIn.up (HJ.out.2.2.1.keep (R' := fun x => x < wr.heap.size) (fun x h => h.1) fun _ _ _ => rfl) b2
              · exact SIn.up (HJ.out.2.2.2.keep (R' := fun x => x < wr.heap.size) (fun x h => h.1) fun _ _ _ => rfl) b2
            have D := Lib.hid D
            have HBZ := Lib.hid (show Below w.heap.size w (w8.alloc (.cells #[.slice Ap 1 cp] 35)) from after (after (after (after (after HB1.out HW.out) HB5.out) HWt.out) HB8.out) (bal _ _))
            clear hfin hb8 hF8 y0 y1 y2 y3 y4 y5 y6 y7 HFF HSB
            obtain ⟨x0, x1, x2, x3, x4⟩ := BE.at_ D.out.x
            obtain ⟨y0, y1, y2, y3, y4, y5, y6, y7⟩ := BX.at_ D.out.y
            have pc := cell_of_one D.out.p
            go_wp2_with fail
            refine (expr_calls e HOE.out _ _ D.out.xa D.out.g).mono ?_
            rintro er wn ⟨rfl, hb⟩
            have D := Lib.hid (D.out.up hb)
            have HBZ := Lib.hid (after HBZ.out hb)
            clear hb x0 x1 x2 x3 x4 y0 y1 y2 y3 y4 y5 y6 y7 pc
            rw [HEX.out]
            rw [errI_true]
            obtain ⟨x0, x1, x2, x3, x4⟩ := BE.at_ D.out.x
            obtain ⟨y0, y1, y2, y3, y4, y5, y6, y7⟩ := BX.at_ D.out.y
            have pc := cell_of_one D.out.p
            go_wp2_with fail
            refine (depth_calls e HOE.out _ _ D.out.xa D.out.g).mono ?_
            rintro er wn ⟨rfl, hb⟩
            have D := Lib.hid (D.out.up hb)
            have HBZ := Lib.hid (after HBZ.out hb)
            clear hb x0 x1 x2 x3 x4 y0 y1 y2 y3 y4 y5 y6 y7 pc
            rw [HDI.out]
            obtain ⟨x0, x1, x2, x3, x4⟩ := BE.at_ D.out.x
            obtain ⟨y0, y1, y2, y3, y4, y5, y6, y7⟩ := BX.at_ D.out.y
            have pc := cell_of_one D.out.p
            go_wp2_with fail
            refine (sameExpr_calls e e HOE.out HOE.out _ _ _ D.out.xa D.out.xa D.out.g).mono ?_
            rintro er wn ⟨rfl, hb⟩
            have D := Lib.hid (D.out.up hb)
            have HBZ := Lib.hid (after HBZ.out hb)
            clear hb x0 x1 x2 x3 x4 y0 y1 y2 y3 y4 y5 y6 y7 pc
            rw [HSE.out]
            obtain ⟨x0, x1, x2, x3, x4⟩ := BE.at_ D.out.x
            obtain ⟨y0, y1, y2, y3, y4, y5, y6, y7⟩ := BX.at_ D.out.y
            have pc := cell_of_one D.out.p
            go_wp2_with fail
            refine (sameStmt_calls s s HOS.out HOS.out _ _ _ _ _ _ _ D.out.ya D.out.yb D.out.ye D.out.ya D.out.yb D.out.ye D.out.g).mono ?_
            rintro er wn ⟨rfl, hb⟩
            have D := Lib.hid (D.out.up hb)
            have HBZ := Lib.hid (after HBZ.out hb)
            clear hb x0 x1 x2 x3 x4 y0 y1 y2 y3 y4 y5 y6 y7 pc
            rw [HSS.out]
            obtain ⟨x0, x1, x2, x3, x4⟩ := BE.at_ D.out.x
            obtain ⟨y0, y1, y2, y3, y4, y5, y6, y7⟩ := BX.at_ D.out.y
            have pc := cell_of_one D.out.p
            go_wp2_with fail
            refine (check_calls l _ _ D.out.f D.out.g).mono ?_
            rintro er wn ⟨rfl, hb⟩
            have D := Lib.hid (D.out.up hb)
            have HBZ := Lib.hid (after HBZ.out hb)
            clear hb x0 x1 x2 x3 x4 y0 y1 y2 y3 y4 y5 y6 y7 pc
            rw [HCK.out]
            rw [errI_true]
            have HGz := Lib.hid D.out.g
            clear D
            obtain ⟨i1, hi1, hy0, hy1, hy2⟩ := info_parts infoS
            have hmk := hy2
            go_wp2_with (refine wpList_make_full _ rfl _ _ 41 rfl (wn.heap.size + 1) 46 i1 _ 8 Tryd.underlying41 hi1 hy0 hy1 .i64 .i64 201 201 201 rfl rfl rfl rfl (by rw [hmk]; decide) (by unfold maxLen; decide) (by simp) ?_)
            intro w9 hown hgr
            have hrl : (rowsS (midO 0) Vn).length = 201 := by rw [rowsS_len]; unfold midO; rw [List.length_append, List.length_replicate, List.length_replicate]
            have hown' : w9.ownsRow (wn.heap.size + 1) 46 8 (.slice (some ⟨wn.heap.size + 1, 0, none⟩) 201 201) (rowsS (midO 0) Vn).length (rowsS (midO 0) Vn).flatten := by rw [hrl, ← made_rows]; exact hown
            obtain ⟨g, cap, hv, _, hr⟩ := RowAt.of_own hown' (rowsS_sz _ _) (by rw [hrl]; decide)
            rw [hrl] at hv
            simp only [Value.slice.injEq, Option.some.injEq, Addr.mk.injEq, true_and, and_true] at hv
            obtain ⟨rfl, rfl⟩ := hv
            have b9 : Below (wn.heap.size + 1) (wn.alloc (sO oS (.slice none 0 0) (.slice none 0 0) (.slice none 0 0))) w9 := (Below.refl _ _).grown hgr (by rw [sz1]; exact Nat.le_refl _) (fun k hk => by cases hk)
            have HM0 := Lib.hid hr
            have HO0 := Lib.hid (RowAt.bel (BX.new wn oS (.slice none 0 0) (.slice none 0 0) (.slice none 0 0)) b9 (Nat.lt_succ_self _))
            have HB0 := Lib.hid ((bal wn (sO oS (.slice none 0 0) (.slice none 0 0) (.slice none 0 0))).trans (b9.mono (Nat.le_succ _)))
            clear hown hown' hgr hrl hr b9 hi1 hy0 hy1 hy2 hmk
            go_wp2_with fail
            go_loopw [122] (fun c wx => ∃ i : Nat, i ≤ 201 ∧ c = .int .i64 i ∧ Hid (RowAt wx (wn.heap.size + 1) 46 8 201 (rowsS (midO i) Vn)) ∧ Hid (RowAt wx wn.heap.size 46 8 1 [sC oS (.slice none 0 0) (.slice none 0 0) (.slice none 0 0)]) ∧ Hid (Below wn.heap.size wn wx)) (fun c _ => 201 - (intOf c).toNat)
            case atStart => exact ⟨0, by omega, rfl, HM0, HO0, HB0⟩
            case round =>
              obtain ⟨i, hi, rfl, HM, HO, HBX⟩ := hrel
              by_cases h201 : i < 201
              · obtain ⟨o0, o1, o2, o3, o4, o5, o6, o7⟩ := BX.at_ HO.out
                simp only [oS] at o0 o1 o2 o3 o4
                have hth := midO_there h201 HM.out
                have hinf : (Tryd.prog.info? 46).map (·.size) = some 8 := by kernel_rfl
                have HM2 := (midO_step h201 HM.out)
                have HO2 := (HO.out.keep (ch8_heap wr (wn.heap.size + 1) i (by omega)))
                have HB2 := (ch8_below HBX.out (wn.heap.size + 1) i (Nat.le_succ _))
                rw [← setCells_ch8] at HM2 HO2 HB2
                have HM2 := Lib.hid HM2
                have HO2 := Lib.hid HO2
                have HB2 := Lib.hid HB2
                go_wp2_with (refine wpList_store_mid rfl 46 _ _ rfl (wn.heap.size + 1) (i * 8) o8 rfl rfl hth hinf o8_one ?_; generalize wr.setCells (wn.heap.size + 1) (i * 8) o8.toList = W8 at HM2 HO2 HB2 ⊢)
                clear hth hinf
                go_wp2_with fail
                go_roundw
                case rel => exact ⟨i + 1, by omega, by go_num, HM2, HO2, HB2⟩
                case measure => simp [intOf]; omega
              · obtain rfl : i = 201 := by omega
                have HMR := Lib.hid HM.out
                have hgl := HM.out.lt
                have HBW := Lib.hid (after HBZ.out HBX.out)
                have HGW := Lib.hid (HGz.out.up HBX.out)
                clear HM HO HBX HBZ HGz
                go_wp2_with fail
                refine (number_200 HMR.out HGW.out).mono ?_
                rintro er w10 ⟨b1, o1, c1, l1, rfl, hb10, hc10, hl10, hk10, hf10⟩
                have HB10 := Lib.hid (after (bal wr _) hb10)
                have HMR := Lib.hid (HMR.out.bel HB10.out hgl)
                have HGW := Lib.hid (HGW.out.up HB10.out)
                have HF10 := Lib.hid hf10
                have HC10 := Lib.hid hc10
                have HK10 := Lib.hid hk10
                have hgl : wn.heap.size + 1 < w10.heap.size := HMR.out.lt
                clear hb10 hf10 hc10 hk10
                go_wp2_with fail
                refine (number_201 (w10.heap.size + 1) (sz1 w10 _) (HMR.out.bel (bal w10 (.cells #[.slice (some ⟨b1, o1, none⟩) 1 c1] 35)) hgl) (HGW.out.al _)).mono ?_
                rintro er w11 ⟨A2, c2, rfl, hb11⟩
                have hz10 : w10.heap.size + 2 ≤ w11.heap.size := by have := hb11.size; rw [sz1, sz1] at this; exact this
                have B11 : Below w10.heap.size w10 w11 := after (bal2 w10 _ _) hb11
                have BP := (hb11.block w10.heap.size (by rw [sz1, sz1]; omega)).trans (((bal (w10.alloc (.cells #[.slice (some ⟨b1, o1, none⟩) 1 c1] 35)) _).block w10.heap.size (by rw [sz1]; omega)).trans (heap_alloc_new w10 _))
                have BP2 := ((bal w11 (.cells #[.slice A2 0 c2] 35)).block w10.heap.size (by omega)).trans BP
                have q1 := cell_of_one BP2
                have q2 := ((B11.alloc B11.size (.cells #[.slice A2 0 c2] 35)).cell (p := ⟨b1, o1 + 4, none⟩) hl10).trans HC10.out
                have HFX := Lib.hid (HF10.out.up (B11.alloc B11.size (.cells #[.slice A2 0 c2] 35)))
                have HGX := Lib.hid (HGW.out.up (B11.alloc B11.size (.cells #[.slice A2 0 c2] 35)))
                have HBX := Lib.hid (after (after HBW.out HB10.out) (B11.alloc B11.size (.cells #[.slice A2 0 c2] 35)))
                have HB11 := Lib.hid BP2
                clear hb11 B11 BP BP2
                go_wp2_with fail
                refine (check_calls l1 _ _ HFX.out HGX.out).mono ?_
                rintro er w12 ⟨rfl, hb12⟩
                have HBY := Lib.hid (after HBX.out hb12)
                have HGY := Lib.hid (HGX.out.up hb12)
                have q3 := (hb12.cell (p := ⟨w11.heap.size, 0, none⟩) (by simp)).trans (cell_of_one (heap_alloc_new w11 (.cells #[.slice A2 0 c2] 35)))
                clear hb12 q1 q2
                rw [HK10.out, errI_true]
                go_wp2_with fail
                refine (works_calls _ HGY.out).mono ?_
                rintro er w13 ⟨rfl, hb13⟩
                have HBV := Lib.hid (after HBY.out hb13)
                clear hb13
                go_wp2_with fail
                go_ret
                exact ⟨rfl, HBV.out⟩
          · have hdn : (dep 20 e : Nat) = 0 := by rw [HDE.out, if_neg hk]
            have hex : exB e = false := by simp [exB, hdn]
            have HSE := Lib.hid (show sameE e e = false by simp [sameE, hex, eqE])
            have HSS := Lib.hid (show sameSt s s = false by simp [sameSt, hRL, hk, eqSt])
            have hdi : ((dep 20 e : Nat) : Int) = 0 := by omega
            have hnp : numbP [⟨[109, 97, 105, 110], [], 0, [s], 0⟩] = [] := by simp [numbP, hfn, hk]
            have hk1 : 20 < 1 + (j : Int) := by omega
            have HEX := Lib.hid hex
            have HDI := Lib.hid hdi
            have HCK := Lib.hid (checkB_numbP [⟨[109, 97, 105, 110], [], 0, [s], 0⟩])
            have hln : (numbP [⟨[109, 97, 105, 110], [], 0, [s], 0⟩]).length = 0 := by rw [hnp]; rfl
            clear hdn hex hdi hnp hfn hRL
            go_wp2_with fail
            refine (number_all [⟨[109, 97, 105, 110], [], 0, [s], 0⟩] _ _ (HFF.out 1) (HGr.out.up (bal2 wr _ _))).mono ?_
            rintro er w8 hNP
            obtain ⟨vp, rfl, hb8, hF8⟩ := hNP.fr (by omega)
            have hfin : FIn w8 w8.heap.size _ vp := hF8.keep (fun x h => h.2) fun _ _ _ => rfl
            obtain ⟨Ap, cp, rfl⟩ := hfin.slice
            have HB8 := Lib.hid (after (bal2 wr _ _) hb8)
            generalize numbP [⟨[109, 97, 105, 110], [], 0, [s], 0⟩] = l at *
            rw [hln] at hfin ⊢
            have D : DF w1.heap.size (w5.heap.size + 1) w8.heap.size e (.slice va e.args.length vc) s (.slice Aa s.args.length ca) (.slice Ab s.body.length cb) (.slice Ae s.els.length ce) l (.slice Ap 0 cp) (w8.alloc (.cells #[.slice Ap 0 cp] 35)) := by
              have b1 : Below wo.heap.size wo wr := after HB5.out HWt.out
              have b2 : Below wr.heap.size wr (w8.alloc (.cells #[.slice Ap 0 cp] 35)) := after HB8.out (bal _ _)
              refine ⟨HGr.out.up b2, HX.out.bel (after b1 b2) HX.out.lt, ?_, HJ.out.1.bel b2 HJ.out.1.lt, ?_, ?_, ?_, heap_alloc_new _ _, hfin.al _⟩
              · exact EIn.up (HE.out.keep (R' := fun x => x < wo.heap.size) (fun x h => h.1) fun _ _ _ => rfl) (after b1 b2)
              · exact EIn.up (HJ.out.2.1.keep (R' := fun x => x < wr.heap.size) (fun x h => h.1) fun _ _ _ => rfl) b2
              · exact SIn.up (HJ.out.2.2.1.keep (R' := fun x => x < wr.heap.size) (fun x h => h.1) fun _ _ _ => rfl) b2
              · exact SIn.up (HJ.out.2.2.2.keep (R' := fun x => x < wr.heap.size) (fun x h => h.1) fun _ _ _ => rfl) b2
            have D := Lib.hid D
            have HBZ := Lib.hid (show Below w.heap.size w (w8.alloc (.cells #[.slice Ap 0 cp] 35)) from after (after (after (after (after HB1.out HW.out) HB5.out) HWt.out) HB8.out) (bal _ _))
            clear hfin hb8 hF8 y0 y1 y2 y3 y4 y5 y6 y7 HFF HSB
            obtain ⟨x0, x1, x2, x3, x4⟩ := BE.at_ D.out.x
            obtain ⟨y0, y1, y2, y3, y4, y5, y6, y7⟩ := BX.at_ D.out.y
            have pc := cell_of_one D.out.p
            go_wp2_with fail
            refine (expr_calls e HOE.out _ _ D.out.xa D.out.g).mono ?_
            rintro er wn ⟨rfl, hb⟩
            have D := Lib.hid (D.out.up hb)
            have HBZ := Lib.hid (after HBZ.out hb)
            clear hb x0 x1 x2 x3 x4 y0 y1 y2 y3 y4 y5 y6 y7 pc
            rw [HEX.out]
            rw [errI_false]
            obtain ⟨x0, x1, x2, x3, x4⟩ := BE.at_ D.out.x
            obtain ⟨y0, y1, y2, y3, y4, y5, y6, y7⟩ := BX.at_ D.out.y
            have pc := cell_of_one D.out.p
            go_wp2_with fail
            refine (depth_calls e HOE.out _ _ D.out.xa D.out.g).mono ?_
            rintro er wn ⟨rfl, hb⟩
            have D := Lib.hid (D.out.up hb)
            have HBZ := Lib.hid (after HBZ.out hb)
            clear hb x0 x1 x2 x3 x4 y0 y1 y2 y3 y4 y5 y6 y7 pc
            rw [HDI.out]
            obtain ⟨x0, x1, x2, x3, x4⟩ := BE.at_ D.out.x
            obtain ⟨y0, y1, y2, y3, y4, y5, y6, y7⟩ := BX.at_ D.out.y
            have pc := cell_of_one D.out.p
            go_wp2_with fail
            refine (sameExpr_calls e e HOE.out HOE.out _ _ _ D.out.xa D.out.xa D.out.g).mono ?_
            rintro er wn ⟨rfl, hb⟩
            have D := Lib.hid (D.out.up hb)
            have HBZ := Lib.hid (after HBZ.out hb)
            clear hb x0 x1 x2 x3 x4 y0 y1 y2 y3 y4 y5 y6 y7 pc
            rw [HSE.out]
            obtain ⟨x0, x1, x2, x3, x4⟩ := BE.at_ D.out.x
            obtain ⟨y0, y1, y2, y3, y4, y5, y6, y7⟩ := BX.at_ D.out.y
            have pc := cell_of_one D.out.p
            go_wp2_with fail
            refine (sameStmt_calls s s HOS.out HOS.out _ _ _ _ _ _ _ D.out.ya D.out.yb D.out.ye D.out.ya D.out.yb D.out.ye D.out.g).mono ?_
            rintro er wn ⟨rfl, hb⟩
            have D := Lib.hid (D.out.up hb)
            have HBZ := Lib.hid (after HBZ.out hb)
            clear hb x0 x1 x2 x3 x4 y0 y1 y2 y3 y4 y5 y6 y7 pc
            rw [HSS.out]
            obtain ⟨x0, x1, x2, x3, x4⟩ := BE.at_ D.out.x
            obtain ⟨y0, y1, y2, y3, y4, y5, y6, y7⟩ := BX.at_ D.out.y
            have pc := cell_of_one D.out.p
            go_wp2_with fail
            refine (check_calls l _ _ D.out.f D.out.g).mono ?_
            rintro er wn ⟨rfl, hb⟩
            have D := Lib.hid (D.out.up hb)
            have HBZ := Lib.hid (after HBZ.out hb)
            clear hb x0 x1 x2 x3 x4 y0 y1 y2 y3 y4 y5 y6 y7 pc
            rw [HCK.out]
            rw [errI_true]
            have HGz := Lib.hid D.out.g
            clear D
            obtain ⟨i1, hi1, hy0, hy1, hy2⟩ := info_parts infoS
            have hmk := hy2
            go_wp2_with (refine wpList_make_full _ rfl _ _ 41 rfl (wn.heap.size + 1) 46 i1 _ 8 Tryd.underlying41 hi1 hy0 hy1 .i64 .i64 201 201 201 rfl rfl rfl rfl (by rw [hmk]; decide) (by unfold maxLen; decide) (by simp) ?_)
            intro w9 hown hgr
            have hrl : (rowsS (midO 0) Vn).length = 201 := by rw [rowsS_len]; unfold midO; rw [List.length_append, List.length_replicate, List.length_replicate]
            have hown' : w9.ownsRow (wn.heap.size + 1) 46 8 (.slice (some ⟨wn.heap.size + 1, 0, none⟩) 201 201) (rowsS (midO 0) Vn).length (rowsS (midO 0) Vn).flatten := by rw [hrl, ← made_rows]; exact hown
            obtain ⟨g, cap, hv, _, hr⟩ := RowAt.of_own hown' (rowsS_sz _ _) (by rw [hrl]; decide)
            rw [hrl] at hv
            simp only [Value.slice.injEq, Option.some.injEq, Addr.mk.injEq, true_and, and_true] at hv
            obtain ⟨rfl, rfl⟩ := hv
            have b9 : Below (wn.heap.size + 1) (wn.alloc (sO oS (.slice none 0 0) (.slice none 0 0) (.slice none 0 0))) w9 := (Below.refl _ _).grown hgr (by rw [sz1]; exact Nat.le_refl _) (fun k hk => by cases hk)
            have HM0 := Lib.hid hr
            have HO0 := Lib.hid (RowAt.bel (BX.new wn oS (.slice none 0 0) (.slice none 0 0) (.slice none 0 0)) b9 (Nat.lt_succ_self _))
            have HB0 := Lib.hid ((bal wn (sO oS (.slice none 0 0) (.slice none 0 0) (.slice none 0 0))).trans (b9.mono (Nat.le_succ _)))
            clear hown hown' hgr hrl hr b9 hi1 hy0 hy1 hy2 hmk
            go_wp2_with fail
            go_loopw [122] (fun c wx => ∃ i : Nat, i ≤ 201 ∧ c = .int .i64 i ∧ Hid (RowAt wx (wn.heap.size + 1) 46 8 201 (rowsS (midO i) Vn)) ∧ Hid (RowAt wx wn.heap.size 46 8 1 [sC oS (.slice none 0 0) (.slice none 0 0) (.slice none 0 0)]) ∧ Hid (Below wn.heap.size wn wx)) (fun c _ => 201 - (intOf c).toNat)
            case atStart => exact ⟨0, by omega, rfl, HM0, HO0, HB0⟩
            case round =>
              obtain ⟨i, hi, rfl, HM, HO, HBX⟩ := hrel
              by_cases h201 : i < 201
              · obtain ⟨o0, o1, o2, o3, o4, o5, o6, o7⟩ := BX.at_ HO.out
                simp only [oS] at o0 o1 o2 o3 o4
                have hth := midO_there h201 HM.out
                have hinf : (Tryd.prog.info? 46).map (·.size) = some 8 := by kernel_rfl
                have HM2 := (midO_step h201 HM.out)
                have HO2 := (HO.out.keep (ch8_heap wr (wn.heap.size + 1) i (by omega)))
                have HB2 := (ch8_below HBX.out (wn.heap.size + 1) i (Nat.le_succ _))
                rw [← setCells_ch8] at HM2 HO2 HB2
                have HM2 := Lib.hid HM2
                have HO2 := Lib.hid HO2
                have HB2 := Lib.hid HB2
                go_wp2_with (refine wpList_store_mid rfl 46 _ _ rfl (wn.heap.size + 1) (i * 8) o8 rfl rfl hth hinf o8_one ?_; generalize wr.setCells (wn.heap.size + 1) (i * 8) o8.toList = W8 at HM2 HO2 HB2 ⊢)
                clear hth hinf
                go_wp2_with fail
                go_roundw
                case rel => exact ⟨i + 1, by omega, by go_num, HM2, HO2, HB2⟩
                case measure => simp [intOf]; omega
              · obtain rfl : i = 201 := by omega
                have HMR := Lib.hid HM.out
                have hgl := HM.out.lt
                have HBW := Lib.hid (after HBZ.out HBX.out)
                have HGW := Lib.hid (HGz.out.up HBX.out)
                clear HM HO HBX HBZ HGz
                go_wp2_with fail
                refine (number_200 HMR.out HGW.out).mono ?_
                rintro er w10 ⟨b1, o1, c1, l1, rfl, hb10, hc10, hl10, hk10, hf10⟩
                have HB10 := Lib.hid (after (bal wr _) hb10)
                have HMR := Lib.hid (HMR.out.bel HB10.out hgl)
                have HGW := Lib.hid (HGW.out.up HB10.out)
                have HF10 := Lib.hid hf10
                have HC10 := Lib.hid hc10
                have HK10 := Lib.hid hk10
                have hgl : wn.heap.size + 1 < w10.heap.size := HMR.out.lt
                clear hb10 hf10 hc10 hk10
                go_wp2_with fail
                refine (number_201 (w10.heap.size + 1) (sz1 w10 _) (HMR.out.bel (bal w10 (.cells #[.slice (some ⟨b1, o1, none⟩) 1 c1] 35)) hgl) (HGW.out.al _)).mono ?_
                rintro er w11 ⟨A2, c2, rfl, hb11⟩
                have hz10 : w10.heap.size + 2 ≤ w11.heap.size := by have := hb11.size; rw [sz1, sz1] at this; exact this
                have B11 : Below w10.heap.size w10 w11 := after (bal2 w10 _ _) hb11
                have BP := (hb11.block w10.heap.size (by rw [sz1, sz1]; omega)).trans (((bal (w10.alloc (.cells #[.slice (some ⟨b1, o1, none⟩) 1 c1] 35)) _).block w10.heap.size (by rw [sz1]; omega)).trans (heap_alloc_new w10 _))
                have BP2 := ((bal w11 (.cells #[.slice A2 0 c2] 35)).block w10.heap.size (by omega)).trans BP
                have q1 := cell_of_one BP2
                have q2 := ((B11.alloc B11.size (.cells #[.slice A2 0 c2] 35)).cell (p := ⟨b1, o1 + 4, none⟩) hl10).trans HC10.out
                have HFX := Lib.hid (HF10.out.up (B11.alloc B11.size (.cells #[.slice A2 0 c2] 35)))
                have HGX := Lib.hid (HGW.out.up (B11.alloc B11.size (.cells #[.slice A2 0 c2] 35)))
                have HBX := Lib.hid (after (after HBW.out HB10.out) (B11.alloc B11.size (.cells #[.slice A2 0 c2] 35)))
                have HB11 := Lib.hid BP2
                clear hb11 B11 BP BP2
                go_wp2_with fail
                refine (check_calls l1 _ _ HFX.out HGX.out).mono ?_
                rintro er w12 ⟨rfl, hb12⟩
                have HBY := Lib.hid (after HBX.out hb12)
                have HGY := Lib.hid (HGX.out.up hb12)
                have q3 := (hb12.cell (p := ⟨w11.heap.size, 0, none⟩) (by simp)).trans (cell_of_one (heap_alloc_new w11 (.cells #[.slice A2 0 c2] 35)))
                clear hb12 q1 q2
                rw [HK10.out, errI_true]
                go_wp2_with fail
                refine (works_calls _ HGY.out).mono ?_
                rintro er w13 ⟨rfl, hb13⟩
                have HBV := Lib.hid (after HBY.out hb13)
                clear hb13
                go_wp2_with fail
                go_ret
                exact ⟨rfl, HBV.out⟩
end Go.Proofs.YthiilnhiihfknaaDoor
