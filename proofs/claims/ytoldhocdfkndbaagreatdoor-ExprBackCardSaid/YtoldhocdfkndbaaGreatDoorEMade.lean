/-
  Made: an operator with two operands. Written by gen5_made.py.
  Made: an operator with two operands, another number. Written by gen5_made.py.
  Made: an operator with two operands, a third number. Written by gen5_made.py.
  Made: an operator with one operand, an index. Written by gen5_made.py.
  Made: a leaf. Written by gen5_made.py.
  Made: a number. Written by gen5_made.py.
  Made: all ways together: contract. Written by gen5_made.py.
-/
import Derived.Test.YtoldhocdfkndbaaGreatDoorEDrC
import Derived.BigRegion
import Derived.Deep.RegionWith
import Derived.Deep.RegionHeld3
import Derived.StillTailTactics
namespace Go.Proofs.YtoldhocdfkndbaaGreatDoor.E5
open Go Go.RowKit Go.Proofs.YtoldhocdfkndbaaGreatDoor

def names5 : Array Value := #[Value.string ⟨#[97]⟩, .string ⟨#[98]⟩, .string ⟨#[120, 49]⟩, .string ⟨#[108, 111, 110, 103, 95, 110, 97, 109, 101]⟩, .string ⟨#[90]⟩]
theorem lit5 (m : Nat) (hm : m < 5) : names5[m]? = some (.string (B (nm5 m))) := by
  match m, hm with
  | 0, _ => rfl
  | 1, _ => rfl
  | 2, _ => rfl
  | 3, _ => rfl
  | 4, _ => rfl
theorem cell5 (w : World) (m : Nat) : (w.alloc (.cells #[Value.string ⟨#[97]⟩, .string ⟨#[98]⟩, .string ⟨#[120, 49]⟩, .string ⟨#[108, 111, 110, 103, 95, 110, 97, 109, 101]⟩, .string ⟨#[90]⟩] 9)).cell? ⟨w.heap.size, m % 5, none⟩ = some (.string (B (nm5 (m % 5)))) :=
  S3.newCell w names5 9 (m % 5) _ (lit5 _ (by omega))
/-- next, told by its numbers. -/
theorem next_is {M p n : Nat} {ds d1 : List Nat} (hn : dNext ds = (n, d1)) : ∀ W, Dr W M p ds → Calls Tryz.prog 55 #[.pointer (some ⟨p, 0, none⟩)] W (fun e w' => e = .returned (.int .i64 (n : Int)) ∧ Dr w' M p d1 ∧ FrC p W w') := fun W hW => by
  have := next_calls hW
  unfold NextP at this
  rwa [hn] at this
/-- What Made says of a draft. -/
def MadeC (M p : Nat) (L : Int) (ds : List Nat) (r : Tr × List Nat) : Prop := ∀ W, Dr W M p ds → Calls Tryz.prog 21 #[.pointer (some ⟨p, 0, none⟩), .int .i64 L] W (MadeP W M p r)
theorem box_frp {w w' : World} {p z : Nat} {e : Ex} {v : Value} (h : S3.EBox w z e v) (hz : z < w.heap.size) (hp : z ≠ p) (hf : FrC p w w') : S3.EBox w' z e v := by
  obtain ⟨h0, h1, h2, h3, h4⟩ := h
  exact ⟨(hf.cell hz hp).trans h0, (hf.cell hz hp).trans h1, (hf.cell hz hp).trans h2, (hf.cell hz hp).trans h3, (hf.cell hz hp).trans h4⟩
theorem box_put {w : World} {q z : Nat} {e : Ex} {v : Value} (h : S3.EBox w z e v) (hz : z ≠ q) (a0 a1 a2 a3 a4 : Value) : S3.EBox (put5 w q a0 a1 a2 a3 a4) z e v := by
  have k : ∀ i, (put5 w q a0 a1 a2 a3 a4).cell? ⟨z, i, none⟩ = w.cell? ⟨z, i, none⟩ := fun i => World.cell?_of_block (w := w) (put5_heap w q a0 a1 a2 a3 a4 z hz)
  obtain ⟨h0, h1, h2, h3, h4⟩ := h
  exact ⟨(k _).trans h0, (k _).trans h1, (k _).trans h2, (k _).trans h3, (k _).trans h4⟩
set_option maxRecDepth 100000 in
set_option maxHeartbeats 4000000 in
theorem made_bin0 {M p : Nat} {ds : List Nat} (L : Int) (hL1 : 1 < L) (hL2 : L ≤ 6) (n : Nat) (d1 : List Nat) (hn : dNext ds = (n, d1)) (hn255 : n ≤ 255) (hm : n % 8 = 0) (o : Nat) (d2 : List Nat) (ho : dNext d1 = (o, d2)) (ho255 : o ≤ 255)
    (a b : Tr) (d3 d4 : List Nat) (IH1 : MadeC M p (L - 1) d2 (a, d3)) (IH2 : MadeC M p (L - 1) d3 (b, d4)) (ha : S3.OkE a.ex) (hb : S3.OkE b.ex) :
    MadeC M p L ds (.bin ((1 + o % 13 : Nat) : Int) a b, d4) := by
  rw [show ((1 + o % 13 : Nat) : Int) = 1 + (o : Int) % 13 from by omega]
  intro w h
  have Q := Lib.hid (fun a0 a1 a2 a3 a4 => Mid.start h a0 a1 a2 a3 a4)
  have hpw := h.ltw
  have g0 : ((n : Int) % 8 == 0) = true := by simp; omega
  have n255 : (n : Int) ≤ 255 := by omega
  have o255 : (o : Int) ≤ 255 := by omega
  have HI1 := Lib.hid IH1
  have HI2 := Lib.hid IH2
  have HO := Lib.hid (next_is (M := M) (p := p) ho)
  have HA := Lib.hid ha
  have HB := Lib.hid hb
  clear ho IH1 IH2 ha hb
  have HN := Lib.hid (next_is (M := M) (p := p) hn)
  clear h hn
  go_enter Tryz.func21, Tryz.ntmps21
  try simp only [List.append_eq, List.cons_append, List.nil_append]
  go_wp2_with fail
  refine (HN.out _ (Q.out _ _ _ _ _).dr).mono ?_
  rintro e w1 ⟨rfl, hD, hF⟩
  have M1 := Lib.hid ((Q.out _ _ _ _ _).step hD hF)
  clear hD hF
  have hc5 := cell5 w1 (n / 8)
  have M2 := Lib.hid (M1.out.al (.cells #[Value.string ⟨#[97]⟩, .string ⟨#[98]⟩, .string ⟨#[120, 49]⟩, .string ⟨#[108, 111, 110, 103, 95, 110, 97, 109, 101]⟩, .string ⟨#[90]⟩] 9))
  go_wp2_with fail
  generalize w1.alloc (.cells #[Value.string ⟨#[97]⟩, .string ⟨#[98]⟩, .string ⟨#[120, 49]⟩, .string ⟨#[108, 111, 110, 103, 95, 110, 97, 109, 101]⟩, .string ⟨#[90]⟩] 9) = w2 at *
  clear hc5
  refine (HO.out _ M2.out.dr).mono ?_
  rintro e w3 ⟨rfl, hD, hF⟩
  have M3 := Lib.hid (M2.out.step hD hF)
  clear hD hF
  go_wp2_with fail
  refine (HI1.out _ M3.out.dr).mono ?_
  rintro e w4 ⟨A, k, c, rfl, hE, hD, hF⟩
  have hz3 := M3.out.r5.lt
  have hzF := hF.size
  have HE := Lib.hid (er_bel (er_bel hE (S3.bal w4 (S3.eO a.ex (.slice A k c)))) (bal_dr _))
  have M4 := Lib.hid (((M3.out.step hD hF).al (S3.eO a.ex (.slice A k c))).bel (bal_dr _))
  have hS0 := Lib.hid ((S3.EBox.new w4 a.ex (.slice A k c)).keep (bal_dr (w4.alloc (S3.eO a.ex (.slice A k c)))) (by simp))
  have hz4 : (w4.alloc (S3.eO a.ex (.slice A k c))).drew.heap.size = w4.heap.size + 1 := S3.sz1 _ _
  have hne := M4.out.ne
  clear hE hD hF
  go_wp2_with fail
  generalize w4.alloc (S3.eO a.ex (.slice A k c)) = W4 at *
  have qa0 := fun W1 (h : Hid (S3.EBox W1 w4.heap.size a.ex (.slice A k c))) => h.out.c0
  have qa1 := fun W1 (h : Hid (S3.EBox W1 w4.heap.size a.ex (.slice A k c))) => h.out.c1
  have qa2 := fun W1 (h : Hid (S3.EBox W1 w4.heap.size a.ex (.slice A k c))) => h.out.c2
  have qa3 := fun W1 (h : Hid (S3.EBox W1 w4.heap.size a.ex (.slice A k c))) => h.out.c3
  have qa4 := fun W1 (h : Hid (S3.EBox W1 w4.heap.size a.ex (.slice A k c))) => h.out.c4
  have hL3 : IntKind.i64.wrap (L - 1) = L - 1 := IntWalk.i64_in _ (by omega)
  refine wp_region_noPanic ?_
  refine wp_region_held_drew (S := fun W1 => Hid (S3.EBox W1 w4.heap.size a.ex (.slice A k c))) (by kernel_rfl) hS0 (fun hHeld => ?_)
  clear hS0
  generalize W4.drew = wd at *
  refine wpAnyH_take (i := 0) (oi := { dst := some 33, op := Go.Op.move (Go.Operand.tmp 7), type := 3, pos := "outright.go:36", after := #[], guard := none }) (v := ?_) rfl (by as_aux_lemma => kernel_rfl) (by as_aux_lemma => kernel_rfl) (by as_aux_lemma => kernel_rfl) (fun _ _ _ h => h) (Or.inl ⟨by rfl, ?_⟩) hHeld ?_
  rotate_left
  · (intro w hSw; (try dsimp only at hSw); go_simp; try with_reducible rfl)
  try simp only [Act.put, List.setIfInBounds_toArray, List.set_cons_zero, List.set_cons_succ]
  refine wpAnyH_take (i := 1) (oi := { dst := some 34, op := Go.Op.load 32 (Go.Operand.tmp 8), type := 32, pos := "outright.go:36", after := #[], guard := none }) (v := ?_) rfl (by as_aux_lemma => kernel_rfl) (by as_aux_lemma => kernel_rfl) (by as_aux_lemma => kernel_rfl) (fun _ _ _ h => h) (Or.inl ⟨by rfl, ?_⟩) hHeld ?_
  rotate_left
  · (intro w hSw; (try dsimp only at hSw); go_simp; try with_reducible rfl)
  try simp only [Act.put, List.setIfInBounds_toArray, List.set_cons_zero, List.set_cons_succ]
  refine wpAnyH_take (i := 2) (oi := { dst := some 35, op := Go.Op.move (Go.Operand.tmp 0), type := 92, pos := "outright.go:36", after := #[], guard := none }) (v := ?_) rfl (by as_aux_lemma => kernel_rfl) (by as_aux_lemma => kernel_rfl) (by as_aux_lemma => kernel_rfl) (fun _ _ _ h => h) (Or.inl ⟨by rfl, ?_⟩) hHeld ?_
  rotate_left
  · (intro w hSw; (try dsimp only at hSw); go_simp; try with_reducible rfl)
  try simp only [Act.put, List.setIfInBounds_toArray, List.set_cons_zero, List.set_cons_succ]
  refine wpAnyH_take (i := 3) (oi := { dst := some 36, op := Go.Op.move (Go.Operand.tmp 1), type := 3, pos := "outright.go:36", after := #[], guard := none }) (v := ?_) rfl (by as_aux_lemma => kernel_rfl) (by as_aux_lemma => kernel_rfl) (by as_aux_lemma => kernel_rfl) (fun _ _ _ h => h) (Or.inl ⟨by rfl, ?_⟩) hHeld ?_
  rotate_left
  · (intro w hSw; (try dsimp only at hSw); go_simp; try with_reducible rfl)
  try simp only [Act.put, List.setIfInBounds_toArray, List.set_cons_zero, List.set_cons_succ]
  refine wpAnyH_take (i := 4) (oi := { dst := some 37, op := Go.Op.binOp Go.BinOp.sub 3 (Go.Operand.tmp 36) (Go.Operand.const (Go.Value.int Go.IntKind.i64 1)) 3, type := 3, pos := "outright.go:36", after := #[{ on := 3, ground := Go.Ground.data }], guard := none }) (v := ?_) rfl (by as_aux_lemma => kernel_rfl) (by as_aux_lemma => kernel_rfl) (by as_aux_lemma => kernel_rfl) (fun _ _ _ h => h) (Or.inl ⟨by rfl, ?_⟩) hHeld ?_
  rotate_left
  · (intro w hSw; (try dsimp only at hSw); go_simp; try with_reducible rfl)
  try simp only [Act.put, List.setIfInBounds_toArray, List.set_cons_zero, List.set_cons_succ]
  clear hL3
  refine wpAnyH_ready (rs := [5]) (by as_aux_lemma => kernel_rfl) (List.cons_ne_nil _ _) ?_
  refine AllReadyH.cons (o := { dst := some 38, op := Go.Op.call { callee := Go.Callee.value (Go.Operand.func 21), args := #[Go.Operand.tmp 35, Go.Operand.tmp 37], argTypes := #[92, 3] }, type := 32, pos := "outright.go:36", after := #[{ on := 2, ground := Go.Ground.data }, { on := 4, ground := Go.Ground.data }], guard := none }) rfl (fun K hK => ?_) AllReadyH.nil
  go_simp
  refine (HI2.out _ M4.out.dr).mono ?_
  rintro e w5 ⟨A2, k2, c2, rfl, hE2, hD, hF⟩
  have hz5 := hF.size
  have HE1 := Lib.hid (er_frp HE.out (by omega) hF)
  have HE2 := Lib.hid (er_mono hE2 (by omega) (Nat.le_refl _) : S3.ER w5 (Rn w3.heap.size w5.heap.size) b.ex.args (.slice A2 k2 c2))
  have M5 := Lib.hid (M4.out.step hD hF)
  have hS5 : Hid (S3.EBox w5 w4.heap.size a.ex (.slice A k c)) := Lib.hid (box_frp hHeld.out (by omega) (by omega) hF)
  clear hE2 hD hF
  go_wp2_with fail
  refine hK.out _ _ hS5 (fun hHeld2 => ?_)
  clear hK K hHeld
  have hHeld := hHeld2
  clear hHeld2
  try simp only [Act.put, List.setIfInBounds_toArray, List.set_cons_zero, List.set_cons_succ]
  refine wpAnyH_ready (rs := [6]) (by as_aux_lemma => kernel_rfl) (List.cons_ne_nil _ _) ?_
  refine AllReadyH.cons (o := { dst := some 39, op := Go.Op.call { callee := Go.Callee.value (Go.Operand.func 50), args := #[Go.Operand.tmp 33, Go.Operand.tmp 34, Go.Operand.tmp 38], argTypes := #[3, 32, 32] }, type := 32, pos := "outright.go:36", after := #[{ on := 0, ground := Go.Ground.data }, { on := 1, ground := Go.Ground.data }, { on := 5, ground := Go.Ground.data }, { on := 5, ground := Go.Ground.chain }], guard := none }) rfl (fun K hK => ?_) AllReadyH.nil
  go_simp
  refine (pairN_calls _ _ _ HA.out HB.out _ _ w3.heap.size _ (by omega) HE1.out HE2.out).mono ?_
  rintro e w6 ⟨A3, c3, rfl, hb, hE3⟩
  have HE3 := Lib.hid hE3
  have M6 := Lib.hid (M5.out.bel hb)
  have hS6 : Hid (S3.EBox w6 w4.heap.size a.ex (.slice A k c)) := Lib.hid (hHeld.out.keep hb (by omega))
  clear hb hE3
  go_wp2_with fail
  refine hK.out _ _ hS6 (fun hHeld2 => ?_)
  clear hK K hHeld
  have hHeld := hHeld2
  clear hHeld2
  try simp only [Act.put, List.setIfInBounds_toArray, List.set_cons_zero, List.set_cons_succ]
  refine wpAnyH_ready (rs := [7]) (by as_aux_lemma => kernel_rfl) (List.cons_ne_nil _ _) ?_
  refine AllReadyH.cons (o := { dst := none, op := Go.Op.store 32 (Go.Operand.tmp 4) (Go.Operand.tmp 39), type := 0, pos := "outright.go:36", after := #[{ on := 6, ground := Go.Ground.data }, { on := 6, ground := Go.Ground.chain }, { on := 0, ground := Go.Ground.phase }, { on := 1, ground := Go.Ground.phase }, { on := 2, ground := Go.Ground.phase }, { on := 3, ground := Go.Ground.phase }, { on := 4, ground := Go.Ground.phase }, { on := 5, ground := Go.Ground.phase }, { on := 6, ground := Go.Ground.phase }], guard := none }) rfl (fun K hK => ?_) AllReadyH.nil
  obtain ⟨z0, z1, z2, z3, z4, r0, r1, r2, r3, r4, y0, y1, y2, y3, y4⟩ := M6.out.r5.facts
  go_wp2_with fail
  refine hK.out _ _ (Lib.hid (box_put hHeld.out (by omega) _ _ _ _ _)) (fun _ => ?_)
  clear hK K
  try simp only [Act.put, List.setIfInBounds_toArray, List.set_cons_zero, List.set_cons_succ]
  refine wpAnyH_done (by kernel_rfl) ?_ _
  refine NoPanic.normal ?_
  go_wp2_with fail
  exact bodyPost_ret (v := S3.eV (pE (1 + (o : Int) % 13) a.ex b.ex) (.slice A3 2 c3)) (by simp [results, Tryz.results21, go_sem, r0, r1, r2, r3, r4]) rfl (M6.out.done (t := .bin (1 + (o : Int) % 13) a b) (n := w3.heap.size) (by omega) HE3.out _ _ _ _ _)
end Go.Proofs.YtoldhocdfkndbaaGreatDoor.E5

namespace Go.Proofs.YtoldhocdfkndbaaGreatDoor.E5
open Go Go.RowKit Go.Proofs.YtoldhocdfkndbaaGreatDoor

set_option maxRecDepth 100000 in
set_option maxHeartbeats 4000000 in
theorem made_bin1 {M p : Nat} {ds : List Nat} (L : Int) (hL1 : 1 < L) (hL2 : L ≤ 6) (n : Nat) (d1 : List Nat) (hn : dNext ds = (n, d1)) (hn255 : n ≤ 255) (hm : n % 8 = 1) (o : Nat) (d2 : List Nat) (ho : dNext d1 = (o, d2)) (ho255 : o ≤ 255)
    (a b : Tr) (d3 d4 : List Nat) (IH1 : MadeC M p (L - 1) d2 (a, d3)) (IH2 : MadeC M p (L - 1) d3 (b, d4)) (ha : S3.OkE a.ex) (hb : S3.OkE b.ex) :
    MadeC M p L ds (.bin ((1 + o % 13 : Nat) : Int) a b, d4) := by
  rw [show ((1 + o % 13 : Nat) : Int) = 1 + (o : Int) % 13 from by omega]
  intro w h
  have Q := Lib.hid (fun a0 a1 a2 a3 a4 => Mid.start h a0 a1 a2 a3 a4)
  have hpw := h.ltw
  have g0 : ((n : Int) % 8 == 0) = false := by simp; omega
  have g1 : ((n : Int) % 8 == 1) = true := by simp; omega
  have n255 : (n : Int) ≤ 255 := by omega
  have o255 : (o : Int) ≤ 255 := by omega
  have HI1 := Lib.hid IH1
  have HI2 := Lib.hid IH2
  have HO := Lib.hid (next_is (M := M) (p := p) ho)
  have HA := Lib.hid ha
  have HB := Lib.hid hb
  clear ho IH1 IH2 ha hb
  have HN := Lib.hid (next_is (M := M) (p := p) hn)
  clear h hn
  go_enter Tryz.func21, Tryz.ntmps21
  try simp only [List.append_eq, List.cons_append, List.nil_append]
  go_wp2_with fail
  refine (HN.out _ (Q.out _ _ _ _ _).dr).mono ?_
  rintro e w1 ⟨rfl, hD, hF⟩
  have M1 := Lib.hid ((Q.out _ _ _ _ _).step hD hF)
  clear hD hF
  have hc5 := cell5 w1 (n / 8)
  have M2 := Lib.hid (M1.out.al (.cells #[Value.string ⟨#[97]⟩, .string ⟨#[98]⟩, .string ⟨#[120, 49]⟩, .string ⟨#[108, 111, 110, 103, 95, 110, 97, 109, 101]⟩, .string ⟨#[90]⟩] 9))
  go_wp2_with fail
  generalize w1.alloc (.cells #[Value.string ⟨#[97]⟩, .string ⟨#[98]⟩, .string ⟨#[120, 49]⟩, .string ⟨#[108, 111, 110, 103, 95, 110, 97, 109, 101]⟩, .string ⟨#[90]⟩] 9) = w2 at *
  clear hc5
  refine (HO.out _ M2.out.dr).mono ?_
  rintro e w3 ⟨rfl, hD, hF⟩
  have M3 := Lib.hid (M2.out.step hD hF)
  clear hD hF
  go_wp2_with fail
  refine (HI1.out _ M3.out.dr).mono ?_
  rintro e w4 ⟨A, k, c, rfl, hE, hD, hF⟩
  have hz3 := M3.out.r5.lt
  have hzF := hF.size
  have HE := Lib.hid (er_bel (er_bel hE (S3.bal w4 (S3.eO a.ex (.slice A k c)))) (bal_dr _))
  have M4 := Lib.hid (((M3.out.step hD hF).al (S3.eO a.ex (.slice A k c))).bel (bal_dr _))
  have hS0 := Lib.hid ((S3.EBox.new w4 a.ex (.slice A k c)).keep (bal_dr (w4.alloc (S3.eO a.ex (.slice A k c)))) (by simp))
  have hz4 : (w4.alloc (S3.eO a.ex (.slice A k c))).drew.heap.size = w4.heap.size + 1 := S3.sz1 _ _
  have hne := M4.out.ne
  clear hE hD hF
  go_wp2_with fail
  generalize w4.alloc (S3.eO a.ex (.slice A k c)) = W4 at *
  have qa0 := fun W1 (h : Hid (S3.EBox W1 w4.heap.size a.ex (.slice A k c))) => h.out.c0
  have qa1 := fun W1 (h : Hid (S3.EBox W1 w4.heap.size a.ex (.slice A k c))) => h.out.c1
  have qa2 := fun W1 (h : Hid (S3.EBox W1 w4.heap.size a.ex (.slice A k c))) => h.out.c2
  have qa3 := fun W1 (h : Hid (S3.EBox W1 w4.heap.size a.ex (.slice A k c))) => h.out.c3
  have qa4 := fun W1 (h : Hid (S3.EBox W1 w4.heap.size a.ex (.slice A k c))) => h.out.c4
  have hL3 : IntKind.i64.wrap (L - 1) = L - 1 := IntWalk.i64_in _ (by omega)
  refine wp_region_noPanic ?_
  refine wp_region_held_drew (S := fun W1 => Hid (S3.EBox W1 w4.heap.size a.ex (.slice A k c))) (by kernel_rfl) hS0 (fun hHeld => ?_)
  clear hS0
  generalize W4.drew = wd at *
  refine wpAnyH_take (i := 0) (oi := { dst := some 33, op := Go.Op.move (Go.Operand.tmp 7), type := 3, pos := "outright.go:36", after := #[], guard := none }) (v := ?_) rfl (by as_aux_lemma => kernel_rfl) (by as_aux_lemma => kernel_rfl) (by as_aux_lemma => kernel_rfl) (fun _ _ _ h => h) (Or.inl ⟨by rfl, ?_⟩) hHeld ?_
  rotate_left
  · (intro w hSw; (try dsimp only at hSw); go_simp; try with_reducible rfl)
  try simp only [Act.put, List.setIfInBounds_toArray, List.set_cons_zero, List.set_cons_succ]
  refine wpAnyH_take (i := 1) (oi := { dst := some 34, op := Go.Op.load 32 (Go.Operand.tmp 8), type := 32, pos := "outright.go:36", after := #[], guard := none }) (v := ?_) rfl (by as_aux_lemma => kernel_rfl) (by as_aux_lemma => kernel_rfl) (by as_aux_lemma => kernel_rfl) (fun _ _ _ h => h) (Or.inl ⟨by rfl, ?_⟩) hHeld ?_
  rotate_left
  · (intro w hSw; (try dsimp only at hSw); go_simp; try with_reducible rfl)
  try simp only [Act.put, List.setIfInBounds_toArray, List.set_cons_zero, List.set_cons_succ]
  refine wpAnyH_take (i := 2) (oi := { dst := some 35, op := Go.Op.move (Go.Operand.tmp 0), type := 92, pos := "outright.go:36", after := #[], guard := none }) (v := ?_) rfl (by as_aux_lemma => kernel_rfl) (by as_aux_lemma => kernel_rfl) (by as_aux_lemma => kernel_rfl) (fun _ _ _ h => h) (Or.inl ⟨by rfl, ?_⟩) hHeld ?_
  rotate_left
  · (intro w hSw; (try dsimp only at hSw); go_simp; try with_reducible rfl)
  try simp only [Act.put, List.setIfInBounds_toArray, List.set_cons_zero, List.set_cons_succ]
  refine wpAnyH_take (i := 3) (oi := { dst := some 36, op := Go.Op.move (Go.Operand.tmp 1), type := 3, pos := "outright.go:36", after := #[], guard := none }) (v := ?_) rfl (by as_aux_lemma => kernel_rfl) (by as_aux_lemma => kernel_rfl) (by as_aux_lemma => kernel_rfl) (fun _ _ _ h => h) (Or.inl ⟨by rfl, ?_⟩) hHeld ?_
  rotate_left
  · (intro w hSw; (try dsimp only at hSw); go_simp; try with_reducible rfl)
  try simp only [Act.put, List.setIfInBounds_toArray, List.set_cons_zero, List.set_cons_succ]
  refine wpAnyH_take (i := 4) (oi := { dst := some 37, op := Go.Op.binOp Go.BinOp.sub 3 (Go.Operand.tmp 36) (Go.Operand.const (Go.Value.int Go.IntKind.i64 1)) 3, type := 3, pos := "outright.go:36", after := #[{ on := 3, ground := Go.Ground.data }], guard := none }) (v := ?_) rfl (by as_aux_lemma => kernel_rfl) (by as_aux_lemma => kernel_rfl) (by as_aux_lemma => kernel_rfl) (fun _ _ _ h => h) (Or.inl ⟨by rfl, ?_⟩) hHeld ?_
  rotate_left
  · (intro w hSw; (try dsimp only at hSw); go_simp; try with_reducible rfl)
  try simp only [Act.put, List.setIfInBounds_toArray, List.set_cons_zero, List.set_cons_succ]
  clear hL3
  refine wpAnyH_ready (rs := [5]) (by as_aux_lemma => kernel_rfl) (List.cons_ne_nil _ _) ?_
  refine AllReadyH.cons (o := { dst := some 38, op := Go.Op.call { callee := Go.Callee.value (Go.Operand.func 21), args := #[Go.Operand.tmp 35, Go.Operand.tmp 37], argTypes := #[92, 3] }, type := 32, pos := "outright.go:36", after := #[{ on := 2, ground := Go.Ground.data }, { on := 4, ground := Go.Ground.data }], guard := none }) rfl (fun K hK => ?_) AllReadyH.nil
  go_simp
  refine (HI2.out _ M4.out.dr).mono ?_
  rintro e w5 ⟨A2, k2, c2, rfl, hE2, hD, hF⟩
  have hz5 := hF.size
  have HE1 := Lib.hid (er_frp HE.out (by omega) hF)
  have HE2 := Lib.hid (er_mono hE2 (by omega) (Nat.le_refl _) : S3.ER w5 (Rn w3.heap.size w5.heap.size) b.ex.args (.slice A2 k2 c2))
  have M5 := Lib.hid (M4.out.step hD hF)
  have hS5 : Hid (S3.EBox w5 w4.heap.size a.ex (.slice A k c)) := Lib.hid (box_frp hHeld.out (by omega) (by omega) hF)
  clear hE2 hD hF
  go_wp2_with fail
  refine hK.out _ _ hS5 (fun hHeld2 => ?_)
  clear hK K hHeld
  have hHeld := hHeld2
  clear hHeld2
  try simp only [Act.put, List.setIfInBounds_toArray, List.set_cons_zero, List.set_cons_succ]
  refine wpAnyH_ready (rs := [6]) (by as_aux_lemma => kernel_rfl) (List.cons_ne_nil _ _) ?_
  refine AllReadyH.cons (o := { dst := some 39, op := Go.Op.call { callee := Go.Callee.value (Go.Operand.func 50), args := #[Go.Operand.tmp 33, Go.Operand.tmp 34, Go.Operand.tmp 38], argTypes := #[3, 32, 32] }, type := 32, pos := "outright.go:36", after := #[{ on := 0, ground := Go.Ground.data }, { on := 1, ground := Go.Ground.data }, { on := 5, ground := Go.Ground.data }, { on := 5, ground := Go.Ground.chain }], guard := none }) rfl (fun K hK => ?_) AllReadyH.nil
  go_simp
  refine (pairN_calls _ _ _ HA.out HB.out _ _ w3.heap.size _ (by omega) HE1.out HE2.out).mono ?_
  rintro e w6 ⟨A3, c3, rfl, hb, hE3⟩
  have HE3 := Lib.hid hE3
  have M6 := Lib.hid (M5.out.bel hb)
  have hS6 : Hid (S3.EBox w6 w4.heap.size a.ex (.slice A k c)) := Lib.hid (hHeld.out.keep hb (by omega))
  clear hb hE3
  go_wp2_with fail
  refine hK.out _ _ hS6 (fun hHeld2 => ?_)
  clear hK K hHeld
  have hHeld := hHeld2
  clear hHeld2
  try simp only [Act.put, List.setIfInBounds_toArray, List.set_cons_zero, List.set_cons_succ]
  refine wpAnyH_ready (rs := [7]) (by as_aux_lemma => kernel_rfl) (List.cons_ne_nil _ _) ?_
  refine AllReadyH.cons (o := { dst := none, op := Go.Op.store 32 (Go.Operand.tmp 4) (Go.Operand.tmp 39), type := 0, pos := "outright.go:36", after := #[{ on := 6, ground := Go.Ground.data }, { on := 6, ground := Go.Ground.chain }, { on := 0, ground := Go.Ground.phase }, { on := 1, ground := Go.Ground.phase }, { on := 2, ground := Go.Ground.phase }, { on := 3, ground := Go.Ground.phase }, { on := 4, ground := Go.Ground.phase }, { on := 5, ground := Go.Ground.phase }, { on := 6, ground := Go.Ground.phase }], guard := none }) rfl (fun K hK => ?_) AllReadyH.nil
  obtain ⟨z0, z1, z2, z3, z4, r0, r1, r2, r3, r4, y0, y1, y2, y3, y4⟩ := M6.out.r5.facts
  go_wp2_with fail
  refine hK.out _ _ (Lib.hid (box_put hHeld.out (by omega) _ _ _ _ _)) (fun _ => ?_)
  clear hK K
  try simp only [Act.put, List.setIfInBounds_toArray, List.set_cons_zero, List.set_cons_succ]
  refine wpAnyH_done (by kernel_rfl) ?_ _
  refine NoPanic.normal ?_
  go_wp2_with fail
  exact bodyPost_ret (v := S3.eV (pE (1 + (o : Int) % 13) a.ex b.ex) (.slice A3 2 c3)) (by simp [results, Tryz.results21, go_sem, r0, r1, r2, r3, r4]) rfl (M6.out.done (t := .bin (1 + (o : Int) % 13) a b) (n := w3.heap.size) (by omega) HE3.out _ _ _ _ _)
end Go.Proofs.YtoldhocdfkndbaaGreatDoor.E5

namespace Go.Proofs.YtoldhocdfkndbaaGreatDoor.E5
open Go Go.RowKit Go.Proofs.YtoldhocdfkndbaaGreatDoor

set_option maxRecDepth 100000 in
set_option maxHeartbeats 4000000 in
theorem made_bin2 {M p : Nat} {ds : List Nat} (L : Int) (hL1 : 1 < L) (hL2 : L ≤ 6) (n : Nat) (d1 : List Nat) (hn : dNext ds = (n, d1)) (hn255 : n ≤ 255) (hm : n % 8 = 2) (o : Nat) (d2 : List Nat) (ho : dNext d1 = (o, d2)) (ho255 : o ≤ 255)
    (a b : Tr) (d3 d4 : List Nat) (IH1 : MadeC M p (L - 1) d2 (a, d3)) (IH2 : MadeC M p (L - 1) d3 (b, d4)) (ha : S3.OkE a.ex) (hb : S3.OkE b.ex) :
    MadeC M p L ds (.bin ((1 + o % 13 : Nat) : Int) a b, d4) := by
  rw [show ((1 + o % 13 : Nat) : Int) = 1 + (o : Int) % 13 from by omega]
  intro w h
  have Q := Lib.hid (fun a0 a1 a2 a3 a4 => Mid.start h a0 a1 a2 a3 a4)
  have hpw := h.ltw
  have g0 : ((n : Int) % 8 == 0) = false := by simp; omega
  have g1 : ((n : Int) % 8 == 1) = false := by simp; omega
  have g2 : ((n : Int) % 8 == 2) = true := by simp; omega
  have n255 : (n : Int) ≤ 255 := by omega
  have o255 : (o : Int) ≤ 255 := by omega
  have HI1 := Lib.hid IH1
  have HI2 := Lib.hid IH2
  have HO := Lib.hid (next_is (M := M) (p := p) ho)
  have HA := Lib.hid ha
  have HB := Lib.hid hb
  clear ho IH1 IH2 ha hb
  have HN := Lib.hid (next_is (M := M) (p := p) hn)
  clear h hn
  go_enter Tryz.func21, Tryz.ntmps21
  try simp only [List.append_eq, List.cons_append, List.nil_append]
  go_wp2_with fail
  refine (HN.out _ (Q.out _ _ _ _ _).dr).mono ?_
  rintro e w1 ⟨rfl, hD, hF⟩
  have M1 := Lib.hid ((Q.out _ _ _ _ _).step hD hF)
  clear hD hF
  have hc5 := cell5 w1 (n / 8)
  have M2 := Lib.hid (M1.out.al (.cells #[Value.string ⟨#[97]⟩, .string ⟨#[98]⟩, .string ⟨#[120, 49]⟩, .string ⟨#[108, 111, 110, 103, 95, 110, 97, 109, 101]⟩, .string ⟨#[90]⟩] 9))
  go_wp2_with fail
  generalize w1.alloc (.cells #[Value.string ⟨#[97]⟩, .string ⟨#[98]⟩, .string ⟨#[120, 49]⟩, .string ⟨#[108, 111, 110, 103, 95, 110, 97, 109, 101]⟩, .string ⟨#[90]⟩] 9) = w2 at *
  clear hc5
  refine (HO.out _ M2.out.dr).mono ?_
  rintro e w3 ⟨rfl, hD, hF⟩
  have M3 := Lib.hid (M2.out.step hD hF)
  clear hD hF
  go_wp2_with fail
  refine (HI1.out _ M3.out.dr).mono ?_
  rintro e w4 ⟨A, k, c, rfl, hE, hD, hF⟩
  have hz3 := M3.out.r5.lt
  have hzF := hF.size
  have HE := Lib.hid (er_bel (er_bel hE (S3.bal w4 (S3.eO a.ex (.slice A k c)))) (bal_dr _))
  have M4 := Lib.hid (((M3.out.step hD hF).al (S3.eO a.ex (.slice A k c))).bel (bal_dr _))
  have hS0 := Lib.hid ((S3.EBox.new w4 a.ex (.slice A k c)).keep (bal_dr (w4.alloc (S3.eO a.ex (.slice A k c)))) (by simp))
  have hz4 : (w4.alloc (S3.eO a.ex (.slice A k c))).drew.heap.size = w4.heap.size + 1 := S3.sz1 _ _
  have hne := M4.out.ne
  clear hE hD hF
  go_wp2_with fail
  generalize w4.alloc (S3.eO a.ex (.slice A k c)) = W4 at *
  have qa0 := fun W1 (h : Hid (S3.EBox W1 w4.heap.size a.ex (.slice A k c))) => h.out.c0
  have qa1 := fun W1 (h : Hid (S3.EBox W1 w4.heap.size a.ex (.slice A k c))) => h.out.c1
  have qa2 := fun W1 (h : Hid (S3.EBox W1 w4.heap.size a.ex (.slice A k c))) => h.out.c2
  have qa3 := fun W1 (h : Hid (S3.EBox W1 w4.heap.size a.ex (.slice A k c))) => h.out.c3
  have qa4 := fun W1 (h : Hid (S3.EBox W1 w4.heap.size a.ex (.slice A k c))) => h.out.c4
  have hL3 : IntKind.i64.wrap (L - 1) = L - 1 := IntWalk.i64_in _ (by omega)
  refine wp_region_noPanic ?_
  refine wp_region_held_drew (S := fun W1 => Hid (S3.EBox W1 w4.heap.size a.ex (.slice A k c))) (by kernel_rfl) hS0 (fun hHeld => ?_)
  clear hS0
  generalize W4.drew = wd at *
  refine wpAnyH_take (i := 0) (oi := { dst := some 33, op := Go.Op.move (Go.Operand.tmp 7), type := 3, pos := "outright.go:36", after := #[], guard := none }) (v := ?_) rfl (by as_aux_lemma => kernel_rfl) (by as_aux_lemma => kernel_rfl) (by as_aux_lemma => kernel_rfl) (fun _ _ _ h => h) (Or.inl ⟨by rfl, ?_⟩) hHeld ?_
  rotate_left
  · (intro w hSw; (try dsimp only at hSw); go_simp; try with_reducible rfl)
  try simp only [Act.put, List.setIfInBounds_toArray, List.set_cons_zero, List.set_cons_succ]
  refine wpAnyH_take (i := 1) (oi := { dst := some 34, op := Go.Op.load 32 (Go.Operand.tmp 8), type := 32, pos := "outright.go:36", after := #[], guard := none }) (v := ?_) rfl (by as_aux_lemma => kernel_rfl) (by as_aux_lemma => kernel_rfl) (by as_aux_lemma => kernel_rfl) (fun _ _ _ h => h) (Or.inl ⟨by rfl, ?_⟩) hHeld ?_
  rotate_left
  · (intro w hSw; (try dsimp only at hSw); go_simp; try with_reducible rfl)
  try simp only [Act.put, List.setIfInBounds_toArray, List.set_cons_zero, List.set_cons_succ]
  refine wpAnyH_take (i := 2) (oi := { dst := some 35, op := Go.Op.move (Go.Operand.tmp 0), type := 92, pos := "outright.go:36", after := #[], guard := none }) (v := ?_) rfl (by as_aux_lemma => kernel_rfl) (by as_aux_lemma => kernel_rfl) (by as_aux_lemma => kernel_rfl) (fun _ _ _ h => h) (Or.inl ⟨by rfl, ?_⟩) hHeld ?_
  rotate_left
  · (intro w hSw; (try dsimp only at hSw); go_simp; try with_reducible rfl)
  try simp only [Act.put, List.setIfInBounds_toArray, List.set_cons_zero, List.set_cons_succ]
  refine wpAnyH_take (i := 3) (oi := { dst := some 36, op := Go.Op.move (Go.Operand.tmp 1), type := 3, pos := "outright.go:36", after := #[], guard := none }) (v := ?_) rfl (by as_aux_lemma => kernel_rfl) (by as_aux_lemma => kernel_rfl) (by as_aux_lemma => kernel_rfl) (fun _ _ _ h => h) (Or.inl ⟨by rfl, ?_⟩) hHeld ?_
  rotate_left
  · (intro w hSw; (try dsimp only at hSw); go_simp; try with_reducible rfl)
  try simp only [Act.put, List.setIfInBounds_toArray, List.set_cons_zero, List.set_cons_succ]
  refine wpAnyH_take (i := 4) (oi := { dst := some 37, op := Go.Op.binOp Go.BinOp.sub 3 (Go.Operand.tmp 36) (Go.Operand.const (Go.Value.int Go.IntKind.i64 1)) 3, type := 3, pos := "outright.go:36", after := #[{ on := 3, ground := Go.Ground.data }], guard := none }) (v := ?_) rfl (by as_aux_lemma => kernel_rfl) (by as_aux_lemma => kernel_rfl) (by as_aux_lemma => kernel_rfl) (fun _ _ _ h => h) (Or.inl ⟨by rfl, ?_⟩) hHeld ?_
  rotate_left
  · (intro w hSw; (try dsimp only at hSw); go_simp; try with_reducible rfl)
  try simp only [Act.put, List.setIfInBounds_toArray, List.set_cons_zero, List.set_cons_succ]
  clear hL3
  refine wpAnyH_ready (rs := [5]) (by as_aux_lemma => kernel_rfl) (List.cons_ne_nil _ _) ?_
  refine AllReadyH.cons (o := { dst := some 38, op := Go.Op.call { callee := Go.Callee.value (Go.Operand.func 21), args := #[Go.Operand.tmp 35, Go.Operand.tmp 37], argTypes := #[92, 3] }, type := 32, pos := "outright.go:36", after := #[{ on := 2, ground := Go.Ground.data }, { on := 4, ground := Go.Ground.data }], guard := none }) rfl (fun K hK => ?_) AllReadyH.nil
  go_simp
  refine (HI2.out _ M4.out.dr).mono ?_
  rintro e w5 ⟨A2, k2, c2, rfl, hE2, hD, hF⟩
  have hz5 := hF.size
  have HE1 := Lib.hid (er_frp HE.out (by omega) hF)
  have HE2 := Lib.hid (er_mono hE2 (by omega) (Nat.le_refl _) : S3.ER w5 (Rn w3.heap.size w5.heap.size) b.ex.args (.slice A2 k2 c2))
  have M5 := Lib.hid (M4.out.step hD hF)
  have hS5 : Hid (S3.EBox w5 w4.heap.size a.ex (.slice A k c)) := Lib.hid (box_frp hHeld.out (by omega) (by omega) hF)
  clear hE2 hD hF
  go_wp2_with fail
  refine hK.out _ _ hS5 (fun hHeld2 => ?_)
  clear hK K hHeld
  have hHeld := hHeld2
  clear hHeld2
  try simp only [Act.put, List.setIfInBounds_toArray, List.set_cons_zero, List.set_cons_succ]
  refine wpAnyH_ready (rs := [6]) (by as_aux_lemma => kernel_rfl) (List.cons_ne_nil _ _) ?_
  refine AllReadyH.cons (o := { dst := some 39, op := Go.Op.call { callee := Go.Callee.value (Go.Operand.func 50), args := #[Go.Operand.tmp 33, Go.Operand.tmp 34, Go.Operand.tmp 38], argTypes := #[3, 32, 32] }, type := 32, pos := "outright.go:36", after := #[{ on := 0, ground := Go.Ground.data }, { on := 1, ground := Go.Ground.data }, { on := 5, ground := Go.Ground.data }, { on := 5, ground := Go.Ground.chain }], guard := none }) rfl (fun K hK => ?_) AllReadyH.nil
  go_simp
  refine (pairN_calls _ _ _ HA.out HB.out _ _ w3.heap.size _ (by omega) HE1.out HE2.out).mono ?_
  rintro e w6 ⟨A3, c3, rfl, hb, hE3⟩
  have HE3 := Lib.hid hE3
  have M6 := Lib.hid (M5.out.bel hb)
  have hS6 : Hid (S3.EBox w6 w4.heap.size a.ex (.slice A k c)) := Lib.hid (hHeld.out.keep hb (by omega))
  clear hb hE3
  go_wp2_with fail
  refine hK.out _ _ hS6 (fun hHeld2 => ?_)
  clear hK K hHeld
  have hHeld := hHeld2
  clear hHeld2
  try simp only [Act.put, List.setIfInBounds_toArray, List.set_cons_zero, List.set_cons_succ]
  refine wpAnyH_ready (rs := [7]) (by as_aux_lemma => kernel_rfl) (List.cons_ne_nil _ _) ?_
  refine AllReadyH.cons (o := { dst := none, op := Go.Op.store 32 (Go.Operand.tmp 4) (Go.Operand.tmp 39), type := 0, pos := "outright.go:36", after := #[{ on := 6, ground := Go.Ground.data }, { on := 6, ground := Go.Ground.chain }, { on := 0, ground := Go.Ground.phase }, { on := 1, ground := Go.Ground.phase }, { on := 2, ground := Go.Ground.phase }, { on := 3, ground := Go.Ground.phase }, { on := 4, ground := Go.Ground.phase }, { on := 5, ground := Go.Ground.phase }, { on := 6, ground := Go.Ground.phase }], guard := none }) rfl (fun K hK => ?_) AllReadyH.nil
  obtain ⟨z0, z1, z2, z3, z4, r0, r1, r2, r3, r4, y0, y1, y2, y3, y4⟩ := M6.out.r5.facts
  go_wp2_with fail
  refine hK.out _ _ (Lib.hid (box_put hHeld.out (by omega) _ _ _ _ _)) (fun _ => ?_)
  clear hK K
  try simp only [Act.put, List.setIfInBounds_toArray, List.set_cons_zero, List.set_cons_succ]
  refine wpAnyH_done (by kernel_rfl) ?_ _
  refine NoPanic.normal ?_
  go_wp2_with fail
  exact bodyPost_ret (v := S3.eV (pE (1 + (o : Int) % 13) a.ex b.ex) (.slice A3 2 c3)) (by simp [results, Tryz.results21, go_sem, r0, r1, r2, r3, r4]) rfl (M6.out.done (t := .bin (1 + (o : Int) % 13) a b) (n := w3.heap.size) (by omega) HE3.out _ _ _ _ _)
end Go.Proofs.YtoldhocdfkndbaaGreatDoor.E5

namespace Go.Proofs.YtoldhocdfkndbaaGreatDoor.E5
open Go Go.RowKit Go.Proofs.YtoldhocdfkndbaaGreatDoor

set_option maxRecDepth 100000 in
set_option maxHeartbeats 4000000 in
theorem made_un {M p : Nat} {ds : List Nat} (L : Int) (hL1 : 1 < L) (hL2 : L ≤ 6) (n : Nat) (d1 : List Nat) (hn : dNext ds = (n, d1)) (hn255 : n ≤ 255) (hm : n % 8 = 3) (o : Nat) (d2 : List Nat) (ho : dNext d1 = (o, d2)) (ho255 : o ≤ 255)
    (a : Tr) (d3 : List Nat) (IH1 : MadeC M p (L - 1) d2 (a, d3)) (ha : S3.OkE a.ex) :
    MadeC M p L ds (.un ((14 + o % 2 : Nat) : Int) a, d3) := by
  rw [show ((14 + o % 2 : Nat) : Int) = 14 + (o : Int) % 2 from by omega]
  intro w h
  have Q := Lib.hid (fun a0 a1 a2 a3 a4 => Mid.start h a0 a1 a2 a3 a4)
  have hpw := h.ltw
  have g0 : ((n : Int) % 8 == 0) = false := by simp; omega
  have g1 : ((n : Int) % 8 == 1) = false := by simp; omega
  have g2 : ((n : Int) % 8 == 2) = false := by simp; omega
  have g3 : ((n : Int) % 8 == 3) = true := by simp; omega
  have n255 : (n : Int) ≤ 255 := by omega
  have o255 : (o : Int) ≤ 255 := by omega
  have HI1 := Lib.hid IH1
  have HO := Lib.hid (next_is (M := M) (p := p) ho)
  have HA := Lib.hid ha
  clear ho IH1 ha
  have HN := Lib.hid (next_is (M := M) (p := p) hn)
  clear h hn
  go_enter Tryz.func21, Tryz.ntmps21
  try simp only [List.append_eq, List.cons_append, List.nil_append]
  go_wp2_with fail
  refine (HN.out _ (Q.out _ _ _ _ _).dr).mono ?_
  rintro e w1 ⟨rfl, hD, hF⟩
  have M1 := Lib.hid ((Q.out _ _ _ _ _).step hD hF)
  clear hD hF
  have hc5 := cell5 w1 (n / 8)
  have M2 := Lib.hid (M1.out.al (.cells #[Value.string ⟨#[97]⟩, .string ⟨#[98]⟩, .string ⟨#[120, 49]⟩, .string ⟨#[108, 111, 110, 103, 95, 110, 97, 109, 101]⟩, .string ⟨#[90]⟩] 9))
  go_wp2_with fail
  generalize w1.alloc (.cells #[Value.string ⟨#[97]⟩, .string ⟨#[98]⟩, .string ⟨#[120, 49]⟩, .string ⟨#[108, 111, 110, 103, 95, 110, 97, 109, 101]⟩, .string ⟨#[90]⟩] 9) = w2 at *
  clear hc5
  refine (HO.out _ M2.out.dr).mono ?_
  rintro e w3 ⟨rfl, hD, hF⟩
  have M3 := Lib.hid (M2.out.step hD hF)
  clear hD hF
  go_wp2_with fail
  refine (HI1.out _ M3.out.dr).mono ?_
  rintro e w4 ⟨A, k, c, rfl, hE, hD, hF⟩
  have hz3 := M3.out.r5.lt
  have hzF := hF.size
  have HE := Lib.hid (er_one (n := w3.heap.size) HA.out (by omega) hE)
  have M4 := Lib.hid ((M3.out.step hD hF).al (S3.eO a.ex (.slice A k c)))
  obtain ⟨z0, z1, z2, z3, z4, r0, r1, r2, r3, r4, y0, y1, y2, y3, y4⟩ := M4.out.r5.facts
  clear hE hD hF
  go_wp2_with fail
  exact bodyPost_ret (v := S3.eV ⟨4, 14 + (o : Int) % 2, 0, [], [a.ex]⟩ (.slice (some ⟨w4.heap.size, 0, none⟩) 1 1)) (by simp [results, Tryz.results21, go_sem, r0, r1, r2, r3, r4]) rfl (M4.out.done (t := .un (14 + (o : Int) % 2) a) (n := w3.heap.size) (by omega) HE.out _ _ _ _ _)
set_option maxRecDepth 100000 in
set_option maxHeartbeats 4000000 in
theorem made_idx {M p : Nat} {ds : List Nat} (L : Int) (hL1 : 1 < L) (hL2 : L ≤ 6) (n : Nat) (d1 : List Nat) (hn : dNext ds = (n, d1)) (hn255 : n ≤ 255) (hm : n % 8 = 4)
    (a : Tr) (d3 : List Nat) (IH1 : MadeC M p (L - 1) d1 (a, d3)) (ha : S3.OkE a.ex) :
    MadeC M p L ds (.idx (nm5 (n / 8 % 5)) a, d3) := by
  intro w h
  have Q := Lib.hid (fun a0 a1 a2 a3 a4 => Mid.start h a0 a1 a2 a3 a4)
  have hpw := h.ltw
  have g0 : ((n : Int) % 8 == 0) = false := by simp; omega
  have g1 : ((n : Int) % 8 == 1) = false := by simp; omega
  have g2 : ((n : Int) % 8 == 2) = false := by simp; omega
  have g3 : ((n : Int) % 8 == 3) = false := by simp; omega
  have g4 : ((n : Int) % 8 == 4) = true := by simp; omega
  have n255 : (n : Int) ≤ 255 := by omega
  have HI1 := Lib.hid IH1
  have HA := Lib.hid ha
  clear IH1 ha
  have HN := Lib.hid (next_is (M := M) (p := p) hn)
  clear h hn
  go_enter Tryz.func21, Tryz.ntmps21
  try simp only [List.append_eq, List.cons_append, List.nil_append]
  go_wp2_with fail
  refine (HN.out _ (Q.out _ _ _ _ _).dr).mono ?_
  rintro e w1 ⟨rfl, hD, hF⟩
  have M1 := Lib.hid ((Q.out _ _ _ _ _).step hD hF)
  clear hD hF
  have hc5 := cell5 w1 (n / 8)
  have M2 := Lib.hid (M1.out.al (.cells #[Value.string ⟨#[97]⟩, .string ⟨#[98]⟩, .string ⟨#[120, 49]⟩, .string ⟨#[108, 111, 110, 103, 95, 110, 97, 109, 101]⟩, .string ⟨#[90]⟩] 9))
  go_wp2_with fail
  generalize w1.alloc (.cells #[Value.string ⟨#[97]⟩, .string ⟨#[98]⟩, .string ⟨#[120, 49]⟩, .string ⟨#[108, 111, 110, 103, 95, 110, 97, 109, 101]⟩, .string ⟨#[90]⟩] 9) = w2 at *
  clear hc5
  have M3 := M2
  generalize nm5 (n / 8 % 5) = nm at *
  refine (HI1.out _ M3.out.dr).mono ?_
  rintro e w4 ⟨A, k, c, rfl, hE, hD, hF⟩
  have hz3 := M3.out.r5.lt
  have hzF := hF.size
  have HE := Lib.hid (er_one (n := w2.heap.size) HA.out (by omega) hE)
  have M4 := Lib.hid ((M3.out.step hD hF).al (S3.eO a.ex (.slice A k c)))
  obtain ⟨z0, z1, z2, z3, z4, r0, r1, r2, r3, r4, y0, y1, y2, y3, y4⟩ := M4.out.r5.facts
  clear hE hD hF
  go_wp2_with fail
  exact bodyPost_ret (v := S3.eV ⟨6, 0, 0, nm, [a.ex]⟩ (.slice (some ⟨w4.heap.size, 0, none⟩) 1 1)) (by simp [results, Tryz.results21, go_sem, r0, r1, r2, r3, r4]) rfl (M4.out.done (t := .idx nm a) (n := w2.heap.size) (by omega) HE.out _ _ _ _ _)
end Go.Proofs.YtoldhocdfkndbaaGreatDoor.E5

namespace Go.Proofs.YtoldhocdfkndbaaGreatDoor.E5
open Go Go.RowKit Go.Proofs.YtoldhocdfkndbaaGreatDoor

set_option maxRecDepth 100000 in
set_option maxHeartbeats 4000000 in
theorem made_var_lo {M p : Nat} {ds : List Nat} (L : Int) (hL1 : ¬ 1 < L) (n : Nat) (d1 : List Nat) (hn : dNext ds = (n, d1)) (hn255 : n ≤ 255) (hq : n % 4 = 3) :
    MadeC M p L ds (.var (nm5 (n / 8 % 5)), d1) := by
  intro w h
  have Q := Lib.hid (fun a0 a1 a2 a3 a4 => Mid.start h a0 a1 a2 a3 a4)
  have hpw := h.ltw
  have q0 : ((n : Int) % 4 == 0) = false := by simp; omega
  have q1 : ((n : Int) % 4 == 1) = false := by simp; omega
  have q2 : ((n : Int) % 4 == 2) = false := by simp; omega
  have n255 : (n : Int) ≤ 255 := by omega
  have HN := Lib.hid (next_is (M := M) (p := p) hn)
  clear h hn
  go_enter Tryz.func21, Tryz.ntmps21
  try simp only [List.append_eq, List.cons_append, List.nil_append]
  go_wp2_with fail
  refine (HN.out _ (Q.out _ _ _ _ _).dr).mono ?_
  rintro e w1 ⟨rfl, hD, hF⟩
  have M1 := Lib.hid ((Q.out _ _ _ _ _).step hD hF)
  clear hD hF
  have hc5 := cell5 w1 (n / 8)
  have M2 := Lib.hid (M1.out.al (.cells #[Value.string ⟨#[97]⟩, .string ⟨#[98]⟩, .string ⟨#[120, 49]⟩, .string ⟨#[108, 111, 110, 103, 95, 110, 97, 109, 101]⟩, .string ⟨#[90]⟩] 9))
  go_wp2_with fail
  generalize w1.alloc (.cells #[Value.string ⟨#[97]⟩, .string ⟨#[98]⟩, .string ⟨#[120, 49]⟩, .string ⟨#[108, 111, 110, 103, 95, 110, 97, 109, 101]⟩, .string ⟨#[90]⟩] 9) = w2 at *
  clear hc5
  generalize nm5 (n / 8 % 5) = nm at *
  refine (variable_calls nm _).mono ?_
  rintro e w3 ⟨rfl, hb⟩
  have M3 := Lib.hid (M2.out.bel hb)
  have hz3 := M3.out.r5.lt
  clear hb
  obtain ⟨z0, z1, z2, z3, z4, r0, r1, r2, r3, r4, y0, y1, y2, y3, y4⟩ := M3.out.r5.facts
  go_wp2_with fail
  exact bodyPost_ret (v := S3.eV (vE nm) (.slice none 0 0)) (by simp [results, Tryz.results21, go_sem, r0, r1, r2, r3, r4, vE]) rfl (M3.out.done (t := .var nm) (n := w3.heap.size) hz3 (er_nil _ _) _ _ _ _ _)
set_option maxRecDepth 100000 in
set_option maxHeartbeats 4000000 in
theorem made_var_hi {M p : Nat} {ds : List Nat} (L : Int) (hL1 : 1 < L) (_hL2 : L ≤ 6) (n : Nat) (d1 : List Nat) (hn : dNext ds = (n, d1)) (hn255 : n ≤ 255) (hm : 5 ≤ n % 8) (hq : n % 4 = 3) :
    MadeC M p L ds (.var (nm5 (n / 8 % 5)), d1) := by
  intro w h
  have Q := Lib.hid (fun a0 a1 a2 a3 a4 => Mid.start h a0 a1 a2 a3 a4)
  have hpw := h.ltw
  have g0 : ((n : Int) % 8 == 0) = false := by simp; omega
  have g1 : ((n : Int) % 8 == 1) = false := by simp; omega
  have g2 : ((n : Int) % 8 == 2) = false := by simp; omega
  have g3 : ((n : Int) % 8 == 3) = false := by simp; omega
  have g4 : ((n : Int) % 8 == 4) = false := by simp; omega
  have q0 : ((n : Int) % 4 == 0) = false := by simp; omega
  have q1 : ((n : Int) % 4 == 1) = false := by simp; omega
  have q2 : ((n : Int) % 4 == 2) = false := by simp; omega
  have n255 : (n : Int) ≤ 255 := by omega
  have HN := Lib.hid (next_is (M := M) (p := p) hn)
  clear h hn
  go_enter Tryz.func21, Tryz.ntmps21
  try simp only [List.append_eq, List.cons_append, List.nil_append]
  go_wp2_with fail
  refine (HN.out _ (Q.out _ _ _ _ _).dr).mono ?_
  rintro e w1 ⟨rfl, hD, hF⟩
  have M1 := Lib.hid ((Q.out _ _ _ _ _).step hD hF)
  clear hD hF
  have hc5 := cell5 w1 (n / 8)
  have M2 := Lib.hid (M1.out.al (.cells #[Value.string ⟨#[97]⟩, .string ⟨#[98]⟩, .string ⟨#[120, 49]⟩, .string ⟨#[108, 111, 110, 103, 95, 110, 97, 109, 101]⟩, .string ⟨#[90]⟩] 9))
  go_wp2_with fail
  generalize w1.alloc (.cells #[Value.string ⟨#[97]⟩, .string ⟨#[98]⟩, .string ⟨#[120, 49]⟩, .string ⟨#[108, 111, 110, 103, 95, 110, 97, 109, 101]⟩, .string ⟨#[90]⟩] 9) = w2 at *
  clear hc5
  generalize nm5 (n / 8 % 5) = nm at *
  refine (variable_calls nm _).mono ?_
  rintro e w3 ⟨rfl, hb⟩
  have M3 := Lib.hid (M2.out.bel hb)
  have hz3 := M3.out.r5.lt
  clear hb
  obtain ⟨z0, z1, z2, z3, z4, r0, r1, r2, r3, r4, y0, y1, y2, y3, y4⟩ := M3.out.r5.facts
  go_wp2_with fail
  exact bodyPost_ret (v := S3.eV (vE nm) (.slice none 0 0)) (by simp [results, Tryz.results21, go_sem, r0, r1, r2, r3, r4, vE]) rfl (M3.out.done (t := .var nm) (n := w3.heap.size) hz3 (er_nil _ _) _ _ _ _ _)
set_option maxRecDepth 100000 in
set_option maxHeartbeats 4000000 in
theorem made_len_lo {M p : Nat} {ds : List Nat} (L : Int) (hL1 : ¬ 1 < L) (n : Nat) (d1 : List Nat) (hn : dNext ds = (n, d1)) (hn255 : n ≤ 255) (hq : n % 4 = 2) :
    MadeC M p L ds (.len (nm5 (n / 8 % 5)), d1) := by
  intro w h
  have Q := Lib.hid (fun a0 a1 a2 a3 a4 => Mid.start h a0 a1 a2 a3 a4)
  have hpw := h.ltw
  have q0 : ((n : Int) % 4 == 0) = false := by simp; omega
  have q1 : ((n : Int) % 4 == 1) = false := by simp; omega
  have q2 : ((n : Int) % 4 == 2) = true := by simp; omega
  have n255 : (n : Int) ≤ 255 := by omega
  have HN := Lib.hid (next_is (M := M) (p := p) hn)
  clear h hn
  go_enter Tryz.func21, Tryz.ntmps21
  try simp only [List.append_eq, List.cons_append, List.nil_append]
  go_wp2_with fail
  refine (HN.out _ (Q.out _ _ _ _ _).dr).mono ?_
  rintro e w1 ⟨rfl, hD, hF⟩
  have M1 := Lib.hid ((Q.out _ _ _ _ _).step hD hF)
  clear hD hF
  have hc5 := cell5 w1 (n / 8)
  have M2 := Lib.hid (M1.out.al (.cells #[Value.string ⟨#[97]⟩, .string ⟨#[98]⟩, .string ⟨#[120, 49]⟩, .string ⟨#[108, 111, 110, 103, 95, 110, 97, 109, 101]⟩, .string ⟨#[90]⟩] 9))
  obtain ⟨z0, z1, z2, z3, z4, r0, r1, r2, r3, r4, y0, y1, y2, y3, y4⟩ := M2.out.r5.facts
  have hz3 := M2.out.r5.lt
  go_wp2_with fail
  exact bodyPost_ret (v := S3.eV ⟨7, 0, 0, nm5 (n / 8 % 5), []⟩ (.slice none 0 0)) (by simp [results, Tryz.results21, go_sem, r0, r1, r2, r3, r4]) rfl (M2.out.done (t := .len (nm5 (n / 8 % 5))) hz3 (er_nil _ _) _ _ _ _ _)
set_option maxRecDepth 100000 in
set_option maxHeartbeats 4000000 in
theorem made_len_hi {M p : Nat} {ds : List Nat} (L : Int) (hL1 : 1 < L) (_hL2 : L ≤ 6) (n : Nat) (d1 : List Nat) (hn : dNext ds = (n, d1)) (hn255 : n ≤ 255) (hm : 5 ≤ n % 8) (hq : n % 4 = 2) :
    MadeC M p L ds (.len (nm5 (n / 8 % 5)), d1) := by
  intro w h
  have Q := Lib.hid (fun a0 a1 a2 a3 a4 => Mid.start h a0 a1 a2 a3 a4)
  have hpw := h.ltw
  have g0 : ((n : Int) % 8 == 0) = false := by simp; omega
  have g1 : ((n : Int) % 8 == 1) = false := by simp; omega
  have g2 : ((n : Int) % 8 == 2) = false := by simp; omega
  have g3 : ((n : Int) % 8 == 3) = false := by simp; omega
  have g4 : ((n : Int) % 8 == 4) = false := by simp; omega
  have q0 : ((n : Int) % 4 == 0) = false := by simp; omega
  have q1 : ((n : Int) % 4 == 1) = false := by simp; omega
  have q2 : ((n : Int) % 4 == 2) = true := by simp; omega
  have n255 : (n : Int) ≤ 255 := by omega
  have HN := Lib.hid (next_is (M := M) (p := p) hn)
  clear h hn
  go_enter Tryz.func21, Tryz.ntmps21
  try simp only [List.append_eq, List.cons_append, List.nil_append]
  go_wp2_with fail
  refine (HN.out _ (Q.out _ _ _ _ _).dr).mono ?_
  rintro e w1 ⟨rfl, hD, hF⟩
  have M1 := Lib.hid ((Q.out _ _ _ _ _).step hD hF)
  clear hD hF
  have hc5 := cell5 w1 (n / 8)
  have M2 := Lib.hid (M1.out.al (.cells #[Value.string ⟨#[97]⟩, .string ⟨#[98]⟩, .string ⟨#[120, 49]⟩, .string ⟨#[108, 111, 110, 103, 95, 110, 97, 109, 101]⟩, .string ⟨#[90]⟩] 9))
  obtain ⟨z0, z1, z2, z3, z4, r0, r1, r2, r3, r4, y0, y1, y2, y3, y4⟩ := M2.out.r5.facts
  have hz3 := M2.out.r5.lt
  go_wp2_with fail
  exact bodyPost_ret (v := S3.eV ⟨7, 0, 0, nm5 (n / 8 % 5), []⟩ (.slice none 0 0)) (by simp [results, Tryz.results21, go_sem, r0, r1, r2, r3, r4]) rfl (M2.out.done (t := .len (nm5 (n / 8 % 5))) hz3 (er_nil _ _) _ _ _ _ _)
set_option maxRecDepth 100000 in
set_option maxHeartbeats 4000000 in
theorem made_bool_lo {M p : Nat} {ds : List Nat} (L : Int) (hL1 : ¬ 1 < L) (n : Nat) (d1 : List Nat) (hn : dNext ds = (n, d1)) (hn255 : n ≤ 255) (hq : n % 4 = 1) :
    MadeC M p L ds (.bool (n / 4 % 2 == 1), d1) := by
  intro w h
  have Q := Lib.hid (fun a0 a1 a2 a3 a4 => Mid.start h a0 a1 a2 a3 a4)
  have hpw := h.ltw
  have q0 : ((n : Int) % 4 == 0) = false := by simp; omega
  have q1 : ((n : Int) % 4 == 1) = true := by simp; omega
  have n255 : (n : Int) ≤ 255 := by omega
  have HN := Lib.hid (next_is (M := M) (p := p) hn)
  clear h hn
  go_enter Tryz.func21, Tryz.ntmps21
  try simp only [List.append_eq, List.cons_append, List.nil_append]
  go_wp2_with fail
  refine (HN.out _ (Q.out _ _ _ _ _).dr).mono ?_
  rintro e w1 ⟨rfl, hD, hF⟩
  have M1 := Lib.hid ((Q.out _ _ _ _ _).step hD hF)
  clear hD hF
  have hc5 := cell5 w1 (n / 8)
  have M2 := Lib.hid (M1.out.al (.cells #[Value.string ⟨#[97]⟩, .string ⟨#[98]⟩, .string ⟨#[120, 49]⟩, .string ⟨#[108, 111, 110, 103, 95, 110, 97, 109, 101]⟩, .string ⟨#[90]⟩] 9))
  obtain ⟨z0, z1, z2, z3, z4, r0, r1, r2, r3, r4, y0, y1, y2, y3, y4⟩ := M2.out.r5.facts
  have hz3 := M2.out.r5.lt
  go_wp2_with fail
  have hbv : ((if (n / 4 % 2 == 1) then 1 else 0 : Int)) = (n : Int) / 4 % 2 := by
    by_cases h : n / 4 % 2 = 1
    · simp [h]; omega
    · have h0 : n / 4 % 2 = 0 := by omega
      simp [h0]; omega
  have hex : (Tr.bool (n / 4 % 2 == 1)).ex = ⟨2, 0, (n : Int) / 4 % 2, [], []⟩ := by simp only [Tr.ex, hbv]
  refine bodyPost_ret (v := S3.eV ⟨2, 0, (n : Int) / 4 % 2, [], []⟩ (.slice none 0 0)) (by simp [results, Tryz.results21, go_sem, r0, r1, r2, r3, r4]) rfl ?_
  have hd := M2.out.done (t := .bool (n / 4 % 2 == 1)) hz3 (er_nil _ _)
  rw [hex] at hd
  exact hd _ _ _ _ _
set_option maxRecDepth 100000 in
set_option maxHeartbeats 4000000 in
theorem made_bool_hi {M p : Nat} {ds : List Nat} (L : Int) (hL1 : 1 < L) (_hL2 : L ≤ 6) (n : Nat) (d1 : List Nat) (hn : dNext ds = (n, d1)) (hn255 : n ≤ 255) (hm : 5 ≤ n % 8) (hq : n % 4 = 1) :
    MadeC M p L ds (.bool (n / 4 % 2 == 1), d1) := by
  intro w h
  have Q := Lib.hid (fun a0 a1 a2 a3 a4 => Mid.start h a0 a1 a2 a3 a4)
  have hpw := h.ltw
  have g0 : ((n : Int) % 8 == 0) = false := by simp; omega
  have g1 : ((n : Int) % 8 == 1) = false := by simp; omega
  have g2 : ((n : Int) % 8 == 2) = false := by simp; omega
  have g3 : ((n : Int) % 8 == 3) = false := by simp; omega
  have g4 : ((n : Int) % 8 == 4) = false := by simp; omega
  have q0 : ((n : Int) % 4 == 0) = false := by simp; omega
  have q1 : ((n : Int) % 4 == 1) = true := by simp; omega
  have n255 : (n : Int) ≤ 255 := by omega
  have HN := Lib.hid (next_is (M := M) (p := p) hn)
  clear h hn
  go_enter Tryz.func21, Tryz.ntmps21
  try simp only [List.append_eq, List.cons_append, List.nil_append]
  go_wp2_with fail
  refine (HN.out _ (Q.out _ _ _ _ _).dr).mono ?_
  rintro e w1 ⟨rfl, hD, hF⟩
  have M1 := Lib.hid ((Q.out _ _ _ _ _).step hD hF)
  clear hD hF
  have hc5 := cell5 w1 (n / 8)
  have M2 := Lib.hid (M1.out.al (.cells #[Value.string ⟨#[97]⟩, .string ⟨#[98]⟩, .string ⟨#[120, 49]⟩, .string ⟨#[108, 111, 110, 103, 95, 110, 97, 109, 101]⟩, .string ⟨#[90]⟩] 9))
  obtain ⟨z0, z1, z2, z3, z4, r0, r1, r2, r3, r4, y0, y1, y2, y3, y4⟩ := M2.out.r5.facts
  have hz3 := M2.out.r5.lt
  go_wp2_with fail
  have hbv : ((if (n / 4 % 2 == 1) then 1 else 0 : Int)) = (n : Int) / 4 % 2 := by
    by_cases h : n / 4 % 2 = 1
    · simp [h]; omega
    · have h0 : n / 4 % 2 = 0 := by omega
      simp [h0]; omega
  have hex : (Tr.bool (n / 4 % 2 == 1)).ex = ⟨2, 0, (n : Int) / 4 % 2, [], []⟩ := by simp only [Tr.ex, hbv]
  refine bodyPost_ret (v := S3.eV ⟨2, 0, (n : Int) / 4 % 2, [], []⟩ (.slice none 0 0)) (by simp [results, Tryz.results21, go_sem, r0, r1, r2, r3, r4]) rfl ?_
  have hd := M2.out.done (t := .bool (n / 4 % 2 == 1)) hz3 (er_nil _ _)
  rw [hex] at hd
  exact hd _ _ _ _ _
end Go.Proofs.YtoldhocdfkndbaaGreatDoor.E5

namespace Go.Proofs.YtoldhocdfkndbaaGreatDoor.E5
open Go Go.RowKit Go.Proofs.YtoldhocdfkndbaaGreatDoor

theorem num_is {n o : Nat} (h : n ≤ 255) : wrap64 (wrap64 ((n : Int) / 4 * (1 + (o : Int) % 3)) + (n : Int) % 8 * 1099511627776) = ((n / 4 * (1 + o % 3) + n % 8 * 1099511627776 : Nat) : Int) := by
  have h1 : n / 4 * (1 + o % 3) ≤ 63 * 3 := Nat.mul_le_mul (by omega) (by omega)
  have e : (n : Int) / 4 * (1 + (o : Int) % 3) = ((n / 4 * (1 + o % 3) : Nat) : Int) := by push_cast; rfl
  rw [e]
  generalize n / 4 * (1 + o % 3) = q at *
  unfold wrap64
  omega
set_option maxRecDepth 100000 in
set_option maxHeartbeats 4000000 in
theorem made_num_lo {M p : Nat} {ds : List Nat} (L : Int) (hL1 : ¬ 1 < L) (n : Nat) (d1 : List Nat) (hn : dNext ds = (n, d1)) (hn255 : n ≤ 255) (hq : n % 4 = 0) (o : Nat) (d2 : List Nat) (ho : dNext d1 = (o, d2)) (ho255 : o ≤ 255) :
    MadeC M p L ds (.num (n / 4 * (1 + o % 3) + n % 8 * 1099511627776), d2) := by
  intro w h
  have Q := Lib.hid (fun a0 a1 a2 a3 a4 => Mid.start h a0 a1 a2 a3 a4)
  have hpw := h.ltw
  have q0 : ((n : Int) % 4 == 0) = true := by simp; omega
  have n255 : (n : Int) ≤ 255 := by omega
  have o255 : (o : Int) ≤ 255 := by omega
  have HO := Lib.hid (next_is (M := M) (p := p) ho)
  clear ho ho255
  have HN := Lib.hid (next_is (M := M) (p := p) hn)
  clear h hn
  go_enter Tryz.func21, Tryz.ntmps21
  try simp only [List.append_eq, List.cons_append, List.nil_append]
  go_wp2_with fail
  refine (HN.out _ (Q.out _ _ _ _ _).dr).mono ?_
  rintro e w1 ⟨rfl, hD, hF⟩
  have M1 := Lib.hid ((Q.out _ _ _ _ _).step hD hF)
  clear hD hF
  have hc5 := cell5 w1 (n / 8)
  have M2 := Lib.hid (M1.out.al (.cells #[Value.string ⟨#[97]⟩, .string ⟨#[98]⟩, .string ⟨#[120, 49]⟩, .string ⟨#[108, 111, 110, 103, 95, 110, 97, 109, 101]⟩, .string ⟨#[90]⟩] 9))
  go_wp2_with fail
  generalize w1.alloc (.cells #[Value.string ⟨#[97]⟩, .string ⟨#[98]⟩, .string ⟨#[120, 49]⟩, .string ⟨#[108, 111, 110, 103, 95, 110, 97, 109, 101]⟩, .string ⟨#[90]⟩] 9) = w2 at *
  clear hc5
  refine (HO.out _ M2.out.dr).mono ?_
  rintro e w3 ⟨rfl, hD, hF⟩
  have M3 := Lib.hid (M2.out.step hD hF)
  clear hD hF
  have hz3 := M3.out.r5.lt
  go_wp2_with fail
  rw [num_is hn255]
  refine (number_calls _ _).mono ?_
  rintro e w4 ⟨rfl, hb⟩
  have M4 := Lib.hid (M3.out.bel hb)
  have hz4 := M4.out.r5.lt
  clear hb
  obtain ⟨z0, z1, z2, z3, z4, r0, r1, r2, r3, r4, y0, y1, y2, y3, y4⟩ := M4.out.r5.facts
  generalize n / 4 * (1 + o % 3) + n % 8 * 1099511627776 = N at *
  go_wp2_with fail
  exact bodyPost_ret (v := S3.eV (nE (N : Int)) (.slice none 0 0)) (by simp [results, Tryz.results21, go_sem, r0, r1, r2, r3, r4, nE]) rfl (M4.out.done (t := .num N) (n := w4.heap.size) hz4 (er_nil _ _) _ _ _ _ _)
end Go.Proofs.YtoldhocdfkndbaaGreatDoor.E5

namespace Go.Proofs.YtoldhocdfkndbaaGreatDoor.E5
open Go Go.RowKit Go.Proofs.YtoldhocdfkndbaaGreatDoor

theorem leafD_calls {M p : Nat} {ds : List Nat} (L : Int) (hL : ¬ 1 < L ∨ (1 < L ∧ L ≤ 6 ∧ 5 ≤ (dNext ds).1 % 8)) (hds : ∀ x ∈ ds, x ≤ 255) : MadeC M p L ds (leafT (dNext ds).1 (dNext ds).2) := by
  obtain ⟨h1, h2⟩ := dNext_all hds
  obtain ⟨h3, _⟩ := dNext_all h2
  have hn : dNext ds = ((dNext ds).1, (dNext ds).2) := rfl
  have ho : dNext (dNext ds).2 = ((dNext (dNext ds).2).1, (dNext (dNext ds).2).2) := rfl
  generalize (dNext ds).1 = n at *
  generalize (dNext ds).2 = d1 at *
  generalize (dNext d1).1 = o at *
  generalize (dNext d1).2 = d2 at *
  unfold leafT
  by_cases q0 : n % 4 = 0
  · rw [if_pos q0, ho]
    rcases hL with hL | ⟨hL, hL2, hm⟩
    · exact made_num_lo L hL n d1 hn h1 q0 o d2 ho h3
    · omega
  rw [if_neg q0]
  by_cases q1 : n % 4 = 1
  · rw [if_pos q1]
    rcases hL with hL | ⟨hL, hL2, hm⟩
    · exact made_bool_lo L hL n d1 hn h1 q1
    · exact made_bool_hi L hL hL2 n d1 hn h1 hm q1
  rw [if_neg q1]
  by_cases q2 : n % 4 = 2
  · rw [if_pos q2]
    rcases hL with hL | ⟨hL, hL2, hm⟩
    · exact made_len_lo L hL n d1 hn h1 q2
    · exact made_len_hi L hL hL2 n d1 hn h1 hm q2
  rw [if_neg q2]
  rcases hL with hL | ⟨hL, hL2, hm⟩
  · exact made_var_lo L hL n d1 hn h1 (by omega)
  · exact made_var_hi L hL hL2 n d1 hn h1 hm (by omega)
theorem made_calls {M p : Nat} (k : Nat) : ∀ (L : Int) (ds : List Nat), L = (k : Int) + 1 → k ≤ 5 → (∀ x ∈ ds, x ≤ 255) → MadeC M p L ds (mkT k ds) := by
  induction k with
  | zero => intro L ds hL _ hds; exact leafD_calls L (.inl (by omega)) hds
  | succ k ih =>
    intro L ds hL hk hds
    have ih := fun (ds : List Nat) (hds : ∀ x ∈ ds, x ≤ 255) => ih (L - 1) ds (by omega) (by omega) hds
    have ok := fun (ds : List Nat) (hds : ∀ x ∈ ds, x ≤ 255) => mkT_ok k ds hds
    obtain ⟨h1, h2⟩ := dNext_all hds
    obtain ⟨h3, h4⟩ := dNext_all h2
    have hl := leafD_calls (M := M) (p := p) (ds := ds) L
    rw [mkT]
    simp only
    by_cases m2 : (dNext ds).1 % 8 ≤ 2
    · rw [if_pos m2]
      have hA := ok _ h4
      have hB := ok _ hA.2.2
      have c : (dNext ds).1 % 8 = 0 ∨ (dNext ds).1 % 8 = 1 ∨ (dNext ds).1 % 8 = 2 := by omega
      rcases c with c | c | c
      · exact made_bin0 L (by omega) (by omega) _ _ rfl h1 c _ _ rfl h3 _ _ _ _ (ih _ h4) (ih _ hA.2.2) (tr_okE hA.1) (tr_okE hB.1)
      · exact made_bin1 L (by omega) (by omega) _ _ rfl h1 c _ _ rfl h3 _ _ _ _ (ih _ h4) (ih _ hA.2.2) (tr_okE hA.1) (tr_okE hB.1)
      · exact made_bin2 L (by omega) (by omega) _ _ rfl h1 c _ _ rfl h3 _ _ _ _ (ih _ h4) (ih _ hA.2.2) (tr_okE hA.1) (tr_okE hB.1)
    rw [if_neg m2]
    by_cases m3 : (dNext ds).1 % 8 = 3
    · rw [if_pos m3]
      exact made_un L (by omega) (by omega) _ _ rfl h1 m3 _ _ rfl h3 _ _ (ih _ h4) (tr_okE (ok _ h4).1)
    rw [if_neg m3]
    by_cases m4 : (dNext ds).1 % 8 = 4
    · rw [if_pos m4]
      exact made_idx L (by omega) (by omega) _ _ rfl h1 m4 _ _ (ih _ h2) (tr_okE (ok _ h2).1)
    rw [if_neg m4]
    exact hl (.inr ⟨by omega, by omega, by omega⟩) hds
end Go.Proofs.YtoldhocdfkndbaaGreatDoor.E5
