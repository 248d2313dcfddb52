/-
  The law's split of a row of operators: contract. Written by gen5_split.py.
  Three rows that grow side by side: names, operators, ranks.
  ExprRanks, its examples' contract given. Written by gen5_ranks.py.
-/
import Derived.Test.YtoldhocdfkndbaaGreatDoorERankP
import Derived.Test.YtoldhocdfkndbaaGreatDoorECuts
import Derived.Test.YtoldhocdfkndbaaGreatDoorEWorks
import Derived.BigRegion
import Derived.Deep.RegionWith
import Derived.Deep.RegionHeld3
import Derived.Test.YtoldhocdfkndbaaGreatDoorETk
import Derived.Test.YtoldhocdfkndbaaGreatDoorEText
namespace Go.Proofs.YtoldhocdfkndbaaGreatDoor.E5
open Go Go.RowKit Go.Proofs.YtoldhocdfkndbaaGreatDoor

/-- A slice value of n one-cell elements f j, f (j + 1), .., below block M. -/
def VL (W : World) (M : Nat) (v : Value) (f : Nat → Value) (j n : Nat) : Prop := ∃ A c, v = .slice A n c ∧ n ≤ c ∧ c ≤ 9223372036854775807 ∧ ∀ i, i < n → ∃ b o, A = some ⟨b, o, none⟩ ∧ b < M ∧ W.cell? ⟨b, o + i, none⟩ = some (f (j + i))
theorem VL.bel {W W' : World} {M j n : Nat} {v : Value} {f : Nat → Value} (h : VL W M v f j n) (hb : Below M W W') : VL W' M v f j n := by
  obtain ⟨A, c, h1, h2, h3, h4⟩ := h
  refine ⟨A, c, h1, h2, h3, fun i hi => ?_⟩
  obtain ⟨b, o, e1, e2, e3⟩ := h4 i hi
  exact ⟨b, o, e1, e2, (hb.cell (p := ⟨b, o + i, none⟩) e2).trans e3⟩
theorem VL.mono {W : World} {M M' j n : Nat} {v : Value} {f : Nat → Value} (h : VL W M v f j n) (hb : M ≤ M') : VL W M' v f j n := by
  obtain ⟨A, c, h1, h2, h3, h4⟩ := h
  refine ⟨A, c, h1, h2, h3, fun i hi => ?_⟩
  obtain ⟨b, o, e1, e2, e3⟩ := h4 i hi
  exact ⟨b, o, e1, by omega, e3⟩
theorem VL.up {W W' : World} {j n : Nat} {v : Value} {f : Nat → Value} (h : VL W W.heap.size v f j n) (hb : Below W.heap.size W W') : VL W' W'.heap.size v f j n := (h.bel hb).mono hb.size
theorem VL.take {W : World} {M j n c k : Nat} {A : Option Addr} {f : Nat → Value} (h : VL W M (.slice A n c) f j n) (hk : k ≤ n) : VL W M (.slice A k c) f j k := by
  obtain ⟨A', c', h1, h2, h3, h4⟩ := h
  cases h1
  exact ⟨A, c, rfl, by omega, h3, fun i hi => h4 i (by omega)⟩
theorem VL.drop {W : World} {M j n c k m : Nat} {A A' : Option Addr} {b o : Nat} {f : Nat → Value} (h : VL W M (.slice A n c) f j n) (hA : A = some ⟨b, o, none⟩) (hk : k + m = n) (hA' : c ≠ k → A' = some ⟨b, o + k, none⟩) : VL W M (.slice A' m (c - k)) f (j + k) m := by
  obtain ⟨A0, c', h1, h2, h3, h4⟩ := h
  cases h1
  refine ⟨A', c - k, rfl, by omega, by omega, fun i hi => ?_⟩
  obtain ⟨b', o', e1, e2, e3⟩ := h4 (k + i) (by omega)
  rw [hA] at e1
  cases e1
  refine ⟨b, o + k, hA' (by omega), e2, ?_⟩
  rw [show o + k + i = o + (k + i) by omega, show j + k + i = j + (k + i) by omega]
  exact e3
def SplP (w : World) (t : Ex) (e : Ending) (w' : World) : Prop := ∃ A k c, e = .returned (S3.eV t (.slice A k c)) ∧ S3.ER w' (Rn w.heap.size w'.heap.size) t.args (.slice A k c) ∧ Below w.heap.size w w'
structure MidS (w wr : World) : Prop where
  r5 : R5 wr w.heap.size
  bel : Below w.heap.size w wr
theorem MidS.bl {w wr w' : World} (h : MidS w wr) (hb : Below wr.heap.size wr w') : MidS w w' := ⟨h.r5.bel hb, h.bel.trans (hb.mono h.bel.size)⟩
theorem MidS.done {w wr : World} {t : Ex} {A : Option Addr} {k c n : Nat} (h : MidS w wr) (hn : w.heap.size < n) (hE : S3.ER wr (Rn n wr.heap.size) t.args (.slice A k c)) (a0 a1 a2 a3 a4 : Value) :
    SplP w t (.returned (S3.eV t (.slice A k c))) (put5 wr w.heap.size a0 a1 a2 a3 a4) :=
  ⟨A, k, c, rfl, er_mono (put5_er hE hn a0 a1 a2 a3 a4) (by omega) (Nat.le_refl _), put5_below h.bel (Nat.le_refl _) a0 a1 a2 a3 a4⟩
theorem cell_put {w : World} {q z i : Nat} {v : Value} (h : w.cell? ⟨z, i, none⟩ = some v) (hz : z ≠ q) (a0 a1 a2 a3 a4 : Value) : (put5 w q a0 a1 a2 a3 a4).cell? ⟨z, i, none⟩ = some v := by
  have k : ∀ i, (put5 w q a0 a1 a2 a3 a4).cell? ⟨z, i, none⟩ = w.cell? ⟨z, i, none⟩ := fun i => World.cell?_of_block (w := w) (put5_heap w q a0 a1 a2 a3 a4 z hz)
  exact (k i).trans h
theorem treeR_okE {x : Nat → Bytes} {o r : Nat → Int} {k : Nat} (hx : ∀ j, j ≤ k → (x j).length ≤ 1000) (ho : ∀ j, j < k → 0 ≤ o j ∧ o j ≤ 100) (n j : Nat) (h : j + n ≤ k) : S3.OkE (treeR x o r j n) := by
  cases n with
  | zero => rw [treeR_zero]; exact ok_v _ (hx j (by omega))
  | succ n =>
    have := lastMin_in r j n
    rw [treeR_split rfl]; exact ok_p _ _ _ (ho _ (by omega))
def CellS (W : World) (b i : Nat) (v : Value) : Prop := W.cell? ⟨b, i, none⟩ = some v
def atI (r : Nat → Int) (j k : Nat) : Nat := lastMin r j (k - 1) - j
theorem atI_zero (r : Nat → Int) (j : Nat) : atI r j 0 = 0 := by simp [atI, lastMin]
theorem atI_lt (r : Nat → Int) (j k : Nat) : atI r j k ≤ k - 1 := by have := lastMin_in r j (k - 1); unfold atI; omega
theorem atI_succ (r : Nat → Int) (j k : Nat) : atI r j (k + 1) = if r (j + k) ≤ r (j + atI r j k) then k else atI r j k := by
  cases k with
  | zero => simp [atI, lastMin]
  | succ k =>
    have h := lastMin_in r j k
    simp only [atI, Nat.add_sub_cancel, lastMin]
    rw [show j + (lastMin r j k - j) = lastMin r j k by omega]
    split <;> simp only [Nat.add_assoc] at * <;> simp_all <;> omega
theorem slice_str (b o n c k : Nat) (hk : k ≤ n) : ∃ A', (c ≠ k → A' = some ⟨b, o + k, none⟩) ∧ ∀ W m, n - k = m → (Instr.slice 34 (.slice (some ⟨b, o, none⟩) n c) (some (.int .i64 (k : Int))) none none).run Tryz.prog W = .ok (.slice A' m (c - k)) W := by
  have he : Tryz.prog.elem 34 = 9 := by kernel_rfl
  have ht' : Tryz.prog.underlying 34 = some (.slice (Tryz.prog.elem 34)) := by rw [he]; exact Tryz.underlying34
  obtain ⟨i0, hi, _, _, _⟩ := L4.info_partsT infoStr
  have hz : ∀ W, (Go.sizeOf 9).run Tryz.prog W = .ok 1 W := fun W => by rw [run_sizeOf W hi]; exact congrArg (fun n => Result.ok n W) (by kernel_rfl : Tryz.prog.cellsOf 9 = 1)
  by_cases hc : c = k
  · refine ⟨some ⟨b, o, none⟩, fun h => absurd hc h, fun W m hm => ?_⟩
    subst hm
    rw [run_slice_l W _ _ _ _ ht' .i64 _ (by omega) (by omega), he, hz]
    simp [Result.andThen, sliced, hc]
  · refine ⟨some ⟨b, o + k, none⟩, fun _ => rfl, fun W m hm => ?_⟩
    subst hm
    rw [run_slice_l W _ _ _ _ ht' .i64 _ (by omega) (by omega), he, hz]
    simp [Result.andThen, sliced, hc, add_plain]
theorem slice_int (b o n c k : Nat) (hk : k ≤ n) : ∃ A', (c ≠ k → A' = some ⟨b, o + k, none⟩) ∧ ∀ W m, n - k = m → (Instr.slice 48 (.slice (some ⟨b, o, none⟩) n c) (some (.int .i64 (k : Int))) none none).run Tryz.prog W = .ok (.slice A' m (c - k)) W := by
  have he : Tryz.prog.elem 48 = 3 := by kernel_rfl
  have ht' : Tryz.prog.underlying 48 = some (.slice (Tryz.prog.elem 48)) := by rw [he]; exact Tryz.underlying48
  obtain ⟨i0, hi, _, _, _⟩ := L4.info_partsT infoInt
  have hz : ∀ W, (Go.sizeOf 3).run Tryz.prog W = .ok 1 W := fun W => by rw [run_sizeOf W hi]; exact congrArg (fun n => Result.ok n W) (by kernel_rfl : Tryz.prog.cellsOf 3 = 1)
  by_cases hc : c = k
  · refine ⟨some ⟨b, o, none⟩, fun h => absurd hc h, fun W m hm => ?_⟩
    subst hm
    rw [run_slice_l W _ _ _ _ ht' .i64 _ (by omega) (by omega), he, hz]
    simp [Result.andThen, sliced, hc]
  · refine ⟨some ⟨b, o + k, none⟩, fun _ => rfl, fun W m hm => ?_⟩
    subst hm
    rw [run_slice_l W _ _ _ _ ht' .i64 _ (by omega) (by omega), he, hz]
    simp [Result.andThen, sliced, hc, add_plain]
set_option maxRecDepth 100000 in
set_option maxHeartbeats 4000000 in
theorem split_zero (x : Nat → Bytes) (o r : Nat → Int) (j : Nat) (w : World) (vN vO vR : Value) (hN : VL w w.heap.size vN (fun i => .string (B (x i))) j 1) (hO : VL w w.heap.size vO (fun i => .int .i64 (o i)) j 0) (hR : VL w w.heap.size vR (fun i => .int .i64 (r i)) j 0) :
    Calls Tryz.prog 30 #[vN, vO, vR] w (SplP w (treeR x o r j 0)) := by
  obtain ⟨AN, cN, rfl, _, _, hN⟩ := hN
  obtain ⟨AO, cO, rfl, _, _, hO⟩ := hO
  obtain ⟨AR, cR, rfl, _, _, hR⟩ := hR
  obtain ⟨b, of, rfl, hb, hc⟩ := hN 0 (by omega)
  have hc0 : w.cell? ⟨b, of, none⟩ = some (.string (B (x j))) := hc
  have M0 := Lib.hid (fun a0 a1 a2 a3 a4 => (⟨R5.new w a0 a1 a2 a3 a4, (Below.refl _ w).alloc (Nat.le_refl _) _⟩ : MidS w (w.alloc (.cells #[a0, a1, a2, a3, a4] 32))))
  have hc1 := fun ob => ((S3.bal w ob).cell (p := ⟨b, of, none⟩) hb).trans hc0
  rw [treeR_zero]
  clear hN hO hR hc hc0
  go_enter Tryz.func30, Tryz.ntmps30
  go_wp2_with fail
  refine (variable_calls (x j) _).mono ?_
  rintro e w3 ⟨rfl, hb⟩
  have M3 := Lib.hid ((M0.out _ _ _ _ _).bl hb)
  have hz3 := M3.out.r5.lt
  clear hb
  obtain ⟨z0, z1, z2, z3, z4, r0, r1, r2, r3, r4, y0, y1, y2, y3, y4⟩ := M3.out.r5.facts
  go_wp2_with fail
  exact bodyPost_ret (v := S3.eV (vE (x j)) (.slice none 0 0)) (by simp [results, Tryz.results30, go_sem, r0, r1, r2, r3, r4, vE]) rfl (M3.out.done (t := vE (x j)) (n := w3.heap.size) hz3 (er_nil _ _) _ _ _ _ _)
set_option maxRecDepth 100000 in
set_option maxHeartbeats 8000000 in
theorem split_succ {x : Nat → Bytes} {o r : Nat → Int} {N : Nat} (hx : ∀ j, j ≤ N → (x j).length ≤ 1000) (ho : ∀ j, j < N → 0 ≤ o j ∧ o j ≤ 100) (n j : Nat) (hj : j + (n + 1) ≤ N) (hN0 : N ≤ 1000)
    (ih : ∀ m, m ≤ n → ∀ j, j + m ≤ N → ∀ (w : World) (vN vO vR : Value), VL w w.heap.size vN (fun i => .string (B (x i))) j (m + 1) → VL w w.heap.size vO (fun i => .int .i64 (o i)) j m → VL w w.heap.size vR (fun i => .int .i64 (r i)) j m → Calls Tryz.prog 30 #[vN, vO, vR] w (SplP w (treeR x o r j m)))
    (w : World) (vN vO vR : Value) (hN : VL w w.heap.size vN (fun i => .string (B (x i))) j (n + 2)) (hO : VL w w.heap.size vO (fun i => .int .i64 (o i)) j (n + 1)) (hR : VL w w.heap.size vR (fun i => .int .i64 (r i)) j (n + 1)) :
    Calls Tryz.prog 30 #[vN, vO, vR] w (SplP w (treeR x o r j (n + 1))) := by
  have HN := Lib.hid hN
  have HO := Lib.hid hO
  have HR := Lib.hid hR
  obtain ⟨AN, cN, rfl, hcN, hcN', hN⟩ := hN
  obtain ⟨AO, cO, rfl, hcO, hcO', hO⟩ := hO
  obtain ⟨AR, cR, rfl, hcR, hcR', hR⟩ := hR
  obtain ⟨bN, oN, rfl, hbN, _⟩ := hN 0 (by omega)
  obtain ⟨bO, oO, rfl, hbO, _⟩ := hO 0 (by omega)
  obtain ⟨bR, oR, rfl, hbR, _⟩ := hR 0 (by omega)
  have cellO : ∀ i, i < n + 1 → w.cell? ⟨bO, oO + i, none⟩ = some (.int .i64 (o (j + i))) := fun i hi => by
    obtain ⟨_, _, e, _, h⟩ := hO i hi
    cases e; exact h
  have cellR : ∀ i, i < n + 1 → w.cell? ⟨bR, oR + i, none⟩ = some (.int .i64 (r (j + i))) := fun i hi => by
    obtain ⟨_, _, e, _, h⟩ := hR i hi
    cases e; exact h
  have M0 := Lib.hid (fun a0 a1 a2 a3 a4 => (⟨R5.new w a0 a1 a2 a3 a4, (Below.refl _ w).alloc (Nat.le_refl _) _⟩ : MidS w (w.alloc (.cells #[a0, a1, a2, a3, a4] 32))))
  clear hN hO hR
  have CO := Lib.hid (fun W (hb : Below w.heap.size w W) i (hi : i < n + 1) => (hb.cell (p := ⟨bO, oO + i, none⟩) hbO).trans (cellO i hi))
  have CR := Lib.hid (fun W (hb : Below w.heap.size w W) i (hi : i < n + 1) => (hb.cell (p := ⟨bR, oR + i, none⟩) hbR).trans (cellR i hi))
  have IH := Lib.hid ih
  have HX := Lib.hid hx
  have HOO := Lib.hid ho
  clear cellO cellR ih hx ho
  go_enter Tryz.func30, Tryz.ntmps30
  go_wp2_with fail
  have M1 := Lib.hid (M0.out (.int .i64 0) (.int .i64 0) (.int .i64 0) (.string ⟨#[]⟩) (.slice none 0 0))
  clear M0
  generalize w.alloc (.cells #[.int .i64 0, .int .i64 0, .int .i64 0, .string ⟨#[]⟩, .slice none 0 0] 32) = w1 at *
  have CR1 := Lib.hid (fun i hi => CR.out w1 M1.out.bel i hi)
  go_loop [7, 19] (fun a i => ∃ k : Nat, k ≤ n + 1 ∧ i = .int .i64 (k : Int) ∧ a = .int .i64 ((atI r j k : Nat) : Int)) (fun _ i => n + 1 - (intOf i).toNat)
  case atStart => exact ⟨0, by omega, rfl, by rw [atI_zero]; rfl⟩
  case round =>
    obtain ⟨k, hk, rfl, rfl⟩ := hrel
    by_cases hlt : k < n + 1
    · have ha := atI_lt r j k
      have hs := atI_succ r j k
      have q0 := CR1.out k hlt
      have q1 := CR1.out (atI r j k) (by omega)
      generalize atI r j k = a at *
      have d1 : (k : Int) < ((n : Int) + 1) := by omega
      have d2 : (a : Int) < ((n : Int) + 1) := by omega
      go_wp2_with fail
      · rename_i h
        rw [if_pos h] at hs
        go_round
        case rel => exact ⟨k + 1, by omega, by go_num, by rw [hs]⟩
        case measure => simp [intOf]; omega
      · rename_i h
        rw [if_neg (by omega)] at hs
        go_round
        case rel => exact ⟨k + 1, by omega, by go_num, by rw [hs]⟩
        case measure => simp [intOf]; omega
    · obtain rfl : k = n + 1 := by omega
      obtain ⟨a, ha, hla, han⟩ : ∃ a, atI r j (n + 1) = a ∧ lastMin r j n = j + a ∧ a ≤ n := ⟨_, rfl, by have := lastMin_in r j n; simp only [atI, Nat.add_sub_cancel]; omega, by have := lastMin_in r j n; simp only [atI, Nat.add_sub_cancel]; omega⟩
      rw [ha]
      clear ha
      have hD := bal_dr w1
      have hS0 := Lib.hid (show CellS w1.drew bO (oO + a) (.int .i64 (o (j + a))) from CO.out w1.drew (M1.out.bl hD).bel a (by omega))
      have M2 := Lib.hid (M1.out.bl hD)
      have hcast : ((a + 1 : Nat) : Int) = (a : Int) + 1 := by omega
      obtain ⟨TN, hTN, RN⟩ := slice_str bN oN (n + 2) cN (a + 1) (by omega)
      obtain ⟨TO, hTO, RO⟩ := slice_int bO oO (n + 1) cO (a + 1) (by omega)
      obtain ⟨TR, hTR, RR⟩ := slice_int bR oR (n + 1) cR (a + 1) (by omega)
      have RN := fun W => RN W (n - a + 1) (by omega)
      simp only [hcast] at RN
      have RO := fun W => RO W (n - a) (by omega)
      simp only [hcast] at RO
      have RR := fun W => RR W (n - a) (by omega)
      simp only [hcast] at RR
      have hw : IntKind.i64.wrap ((a : Int) + 1) = (a : Int) + 1 := IntWalk.i64_in _ (by omega)
      have q3 : ∀ W1 : World, Hid (CellS W1 bO (oO + a) (.int .i64 (o (j + a)))) → W1.cell? ⟨bO, oO + a, none⟩ = some (.int .i64 (o (j + a))) := fun _ h => h.out
      have e1 : 0 ≤ (a : Int) + 1 := by omega
      have e2 : (a : Int) + 1 ≤ (cN : Int) := by omega
      have e3 : (a : Int) ≤ (cO : Int) := by omega
      have e4 : (a : Int) ≤ (cR : Int) := by omega
      have e5 : 0 ≤ (a : Int) := by omega
      have d2 : (a : Int) < (n : Int) + 1 := by omega
      have c1 : a + 1 ≤ cN := by omega
      have c2 : a ≤ cO := by omega
      have c3 : a ≤ cR := by omega
      clear hD CR1
      go_wp2_with fail
      refine wp_region_noPanic ?_
      refine wp_region_held_drew (S := fun W1 : World => Hid (CellS W1 bO (oO + a) (.int .i64 (o (j + a))))) (by kernel_rfl) hS0 (fun hHeld => ?_)
      clear hS0
      generalize w1.drew = wd at *
      refine wpAnyH_take (i := 0) (oi := { dst := some 32, op := Go.Op.move (Go.Operand.tmp 1), type := 48, pos := "outright.go:103", after := #[], guard := none }) (v := ?_) rfl (by as_aux_lemma => kernel_rfl) (by as_aux_lemma => kernel_rfl) (by as_aux_lemma => kernel_rfl) (fun _ _ _ h => h) (Or.inl ⟨by rfl, ?_⟩) hHeld ?_
      rotate_left
      · (intro w hSw; (try dsimp only at hSw); go_simp; try with_reducible rfl)
      try simp only [Act.put, List.setIfInBounds_toArray, List.set_cons_zero, List.set_cons_succ]
      refine wpAnyH_take (i := 1) (oi := { dst := some 33, op := Go.Op.move (Go.Operand.tmp 7), type := 3, pos := "outright.go:103", after := #[], guard := none }) (v := ?_) rfl (by as_aux_lemma => kernel_rfl) (by as_aux_lemma => kernel_rfl) (by as_aux_lemma => kernel_rfl) (fun _ _ _ h => h) (Or.inl ⟨by rfl, ?_⟩) hHeld ?_
      rotate_left
      · (intro w hSw; (try dsimp only at hSw); go_simp; try with_reducible rfl)
      try simp only [Act.put, List.setIfInBounds_toArray, List.set_cons_zero, List.set_cons_succ]
      refine wpAnyH_take (i := 2) (oi := { dst := some 34, op := Go.Op.indexAddr 48 (Go.Operand.tmp 32) (Go.Operand.tmp 33), type := 0, pos := "outright.go:103", after := #[{ on := 0, ground := Go.Ground.data }, { on := 1, ground := Go.Ground.data }], guard := none }) (v := ?_) rfl (by as_aux_lemma => kernel_rfl) (by as_aux_lemma => kernel_rfl) (by as_aux_lemma => kernel_rfl) (fun _ _ _ h => h) (Or.inl ⟨by rfl, ?_⟩) hHeld ?_
      rotate_left
      · (intro w hSw; (try dsimp only at hSw); go_simp; try with_reducible rfl)
      try simp only [Act.put, List.setIfInBounds_toArray, List.set_cons_zero, List.set_cons_succ]
      refine wpAnyH_take (i := 3) (oi := { dst := some 35, op := Go.Op.load 3 (Go.Operand.tmp 34), type := 3, pos := "outright.go:103", after := #[{ on := 2, ground := Go.Ground.data }], guard := none }) (v := ?_) rfl (by as_aux_lemma => kernel_rfl) (by as_aux_lemma => kernel_rfl) (by as_aux_lemma => kernel_rfl) (fun _ _ _ h => h) (Or.inl ⟨by rfl, ?_⟩) hHeld ?_
      rotate_left
      · (intro w hSw; (try dsimp only at hSw); go_simp; try with_reducible rfl)
      try simp only [Act.put, List.setIfInBounds_toArray, List.set_cons_zero, List.set_cons_succ]
      refine wpAnyH_take (i := 4) (oi := { dst := some 36, op := Go.Op.move (Go.Operand.tmp 0), type := 34, pos := "outright.go:103", after := #[], guard := none }) (v := ?_) rfl (by as_aux_lemma => kernel_rfl) (by as_aux_lemma => kernel_rfl) (by as_aux_lemma => kernel_rfl) (fun _ _ _ h => h) (Or.inl ⟨by rfl, ?_⟩) hHeld ?_
      rotate_left
      · (intro w hSw; (try dsimp only at hSw); go_simp; try with_reducible rfl)
      try simp only [Act.put, List.setIfInBounds_toArray, List.set_cons_zero, List.set_cons_succ]
      refine wpAnyH_take (i := 5) (oi := { dst := some 37, op := Go.Op.move (Go.Operand.tmp 7), type := 3, pos := "outright.go:103", after := #[], guard := none }) (v := ?_) rfl (by as_aux_lemma => kernel_rfl) (by as_aux_lemma => kernel_rfl) (by as_aux_lemma => kernel_rfl) (fun _ _ _ h => h) (Or.inl ⟨by rfl, ?_⟩) hHeld ?_
      rotate_left
      · (intro w hSw; (try dsimp only at hSw); go_simp; try with_reducible rfl)
      try simp only [Act.put, List.setIfInBounds_toArray, List.set_cons_zero, List.set_cons_succ]
      refine wpAnyH_take (i := 6) (oi := { dst := some 38, op := Go.Op.binOp Go.BinOp.add 3 (Go.Operand.tmp 37) (Go.Operand.const (Go.Value.int Go.IntKind.i64 1)) 3, type := 3, pos := "outright.go:103", after := #[{ on := 5, ground := Go.Ground.data }], guard := none }) (v := ?_) rfl (by as_aux_lemma => kernel_rfl) (by as_aux_lemma => kernel_rfl) (by as_aux_lemma => kernel_rfl) (fun _ _ _ h => h) (Or.inl ⟨by rfl, ?_⟩) hHeld ?_
      rotate_left
      · (intro w hSw; (try dsimp only at hSw); go_simp; try with_reducible rfl)
      try simp only [Act.put, List.setIfInBounds_toArray, List.set_cons_zero, List.set_cons_succ]
      refine wpAnyH_take (i := 7) (oi := { dst := some 39, op := Go.Op.slice 34 (Go.Operand.tmp 36) none (some (Go.Operand.tmp 38)) none, type := 34, pos := "outright.go:103", after := #[{ on := 4, ground := Go.Ground.data }, { on := 6, ground := Go.Ground.data }], guard := none }) (v := ?_) rfl (by as_aux_lemma => kernel_rfl) (by as_aux_lemma => kernel_rfl) (by as_aux_lemma => kernel_rfl) (fun _ _ _ h => h) (Or.inl ⟨by rfl, ?_⟩) hHeld ?_
      rotate_left
      · (intro w hSw; (try dsimp only at hSw); go_simp; try with_reducible rfl)
      try simp only [Act.put, List.setIfInBounds_toArray, List.set_cons_zero, List.set_cons_succ]
      refine wpAnyH_take (i := 8) (oi := { dst := some 40, op := Go.Op.move (Go.Operand.tmp 1), type := 48, pos := "outright.go:103", after := #[], guard := none }) (v := ?_) rfl (by as_aux_lemma => kernel_rfl) (by as_aux_lemma => kernel_rfl) (by as_aux_lemma => kernel_rfl) (fun _ _ _ h => h) (Or.inl ⟨by rfl, ?_⟩) hHeld ?_
      rotate_left
      · (intro w hSw; (try dsimp only at hSw); go_simp; try with_reducible rfl)
      try simp only [Act.put, List.setIfInBounds_toArray, List.set_cons_zero, List.set_cons_succ]
      refine wpAnyH_take (i := 9) (oi := { dst := some 41, op := Go.Op.move (Go.Operand.tmp 7), type := 3, pos := "outright.go:103", after := #[], guard := none }) (v := ?_) rfl (by as_aux_lemma => kernel_rfl) (by as_aux_lemma => kernel_rfl) (by as_aux_lemma => kernel_rfl) (fun _ _ _ h => h) (Or.inl ⟨by rfl, ?_⟩) hHeld ?_
      rotate_left
      · (intro w hSw; (try dsimp only at hSw); go_simp; try with_reducible rfl)
      try simp only [Act.put, List.setIfInBounds_toArray, List.set_cons_zero, List.set_cons_succ]
      refine wpAnyH_take (i := 10) (oi := { dst := some 42, op := Go.Op.slice 48 (Go.Operand.tmp 40) none (some (Go.Operand.tmp 41)) none, type := 48, pos := "outright.go:103", after := #[{ on := 8, ground := Go.Ground.data }, { on := 9, ground := Go.Ground.data }], guard := none }) (v := ?_) rfl (by as_aux_lemma => kernel_rfl) (by as_aux_lemma => kernel_rfl) (by as_aux_lemma => kernel_rfl) (fun _ _ _ h => h) (Or.inl ⟨by rfl, ?_⟩) hHeld ?_
      rotate_left
      · (intro w hSw; (try dsimp only at hSw); go_simp; try with_reducible rfl)
      try simp only [Act.put, List.setIfInBounds_toArray, List.set_cons_zero, List.set_cons_succ]
      refine wpAnyH_take (i := 11) (oi := { dst := some 43, op := Go.Op.move (Go.Operand.tmp 2), type := 48, pos := "outright.go:103", after := #[], guard := none }) (v := ?_) rfl (by as_aux_lemma => kernel_rfl) (by as_aux_lemma => kernel_rfl) (by as_aux_lemma => kernel_rfl) (fun _ _ _ h => h) (Or.inl ⟨by rfl, ?_⟩) hHeld ?_
      rotate_left
      · (intro w hSw; (try dsimp only at hSw); go_simp; try with_reducible rfl)
      try simp only [Act.put, List.setIfInBounds_toArray, List.set_cons_zero, List.set_cons_succ]
      refine wpAnyH_take (i := 12) (oi := { dst := some 44, op := Go.Op.move (Go.Operand.tmp 7), type := 3, pos := "outright.go:103", after := #[], guard := none }) (v := ?_) rfl (by as_aux_lemma => kernel_rfl) (by as_aux_lemma => kernel_rfl) (by as_aux_lemma => kernel_rfl) (fun _ _ _ h => h) (Or.inl ⟨by rfl, ?_⟩) hHeld ?_
      rotate_left
      · (intro w hSw; (try dsimp only at hSw); go_simp; try with_reducible rfl)
      try simp only [Act.put, List.setIfInBounds_toArray, List.set_cons_zero, List.set_cons_succ]
      refine wpAnyH_take (i := 13) (oi := { dst := some 45, op := Go.Op.slice 48 (Go.Operand.tmp 43) none (some (Go.Operand.tmp 44)) none, type := 48, pos := "outright.go:103", after := #[{ on := 11, ground := Go.Ground.data }, { on := 12, ground := Go.Ground.data }], guard := none }) (v := ?_) rfl (by as_aux_lemma => kernel_rfl) (by as_aux_lemma => kernel_rfl) (by as_aux_lemma => kernel_rfl) (fun _ _ _ h => h) (Or.inl ⟨by rfl, ?_⟩) hHeld ?_
      rotate_left
      · (intro w hSw; (try dsimp only at hSw); go_simp; try with_reducible rfl)
      try simp only [Act.put, List.setIfInBounds_toArray, List.set_cons_zero, List.set_cons_succ]
      refine wpAnyH_take (i := 15) (oi := { dst := some 47, op := Go.Op.move (Go.Operand.tmp 0), type := 34, pos := "outright.go:103", after := #[], guard := none }) (v := ?_) rfl (by as_aux_lemma => kernel_rfl) (by as_aux_lemma => kernel_rfl) (by as_aux_lemma => kernel_rfl) (fun _ _ _ h => h) (Or.inl ⟨by rfl, ?_⟩) hHeld ?_
      rotate_left
      · (intro w hSw; (try dsimp only at hSw); go_simp; try with_reducible rfl)
      try simp only [Act.put, List.setIfInBounds_toArray, List.set_cons_zero, List.set_cons_succ]
      refine wpAnyH_take (i := 16) (oi := { dst := some 48, op := Go.Op.move (Go.Operand.tmp 7), type := 3, pos := "outright.go:103", after := #[], guard := none }) (v := ?_) rfl (by as_aux_lemma => kernel_rfl) (by as_aux_lemma => kernel_rfl) (by as_aux_lemma => kernel_rfl) (fun _ _ _ h => h) (Or.inl ⟨by rfl, ?_⟩) hHeld ?_
      rotate_left
      · (intro w hSw; (try dsimp only at hSw); go_simp; try with_reducible rfl)
      try simp only [Act.put, List.setIfInBounds_toArray, List.set_cons_zero, List.set_cons_succ]
      refine wpAnyH_take (i := 17) (oi := { dst := some 49, op := Go.Op.binOp Go.BinOp.add 3 (Go.Operand.tmp 48) (Go.Operand.const (Go.Value.int Go.IntKind.i64 1)) 3, type := 3, pos := "outright.go:103", after := #[{ on := 16, ground := Go.Ground.data }], guard := none }) (v := ?_) rfl (by as_aux_lemma => kernel_rfl) (by as_aux_lemma => kernel_rfl) (by as_aux_lemma => kernel_rfl) (fun _ _ _ h => h) (Or.inl ⟨by rfl, ?_⟩) hHeld ?_
      rotate_left
      · (intro w hSw; (try dsimp only at hSw); go_simp; try with_reducible rfl)
      try simp only [Act.put, List.setIfInBounds_toArray, List.set_cons_zero, List.set_cons_succ]
      refine wpAnyH_take (i := 18) (oi := { dst := some 50, op := Go.Op.slice 34 (Go.Operand.tmp 47) (some (Go.Operand.tmp 49)) none none, type := 34, pos := "outright.go:103", after := #[{ on := 15, ground := Go.Ground.data }, { on := 17, ground := Go.Ground.data }], guard := none }) (v := ?_) rfl (by as_aux_lemma => kernel_rfl) (by as_aux_lemma => kernel_rfl) (by as_aux_lemma => kernel_rfl) (fun _ _ _ h => h) (Or.inl ⟨by rfl, ?_⟩) hHeld ?_
      rotate_left
      · (intro w hSw; (try dsimp only at hSw); go_simp; try with_reducible rfl)
      try simp only [Act.put, List.setIfInBounds_toArray, List.set_cons_zero, List.set_cons_succ]
      refine wpAnyH_take (i := 19) (oi := { dst := some 51, op := Go.Op.move (Go.Operand.tmp 1), type := 48, pos := "outright.go:103", after := #[], guard := none }) (v := ?_) rfl (by as_aux_lemma => kernel_rfl) (by as_aux_lemma => kernel_rfl) (by as_aux_lemma => kernel_rfl) (fun _ _ _ h => h) (Or.inl ⟨by rfl, ?_⟩) hHeld ?_
      rotate_left
      · (intro w hSw; (try dsimp only at hSw); go_simp; try with_reducible rfl)
      try simp only [Act.put, List.setIfInBounds_toArray, List.set_cons_zero, List.set_cons_succ]
      refine wpAnyH_take (i := 20) (oi := { dst := some 52, op := Go.Op.move (Go.Operand.tmp 7), type := 3, pos := "outright.go:103", after := #[], guard := none }) (v := ?_) rfl (by as_aux_lemma => kernel_rfl) (by as_aux_lemma => kernel_rfl) (by as_aux_lemma => kernel_rfl) (fun _ _ _ h => h) (Or.inl ⟨by rfl, ?_⟩) hHeld ?_
      rotate_left
      · (intro w hSw; (try dsimp only at hSw); go_simp; try with_reducible rfl)
      try simp only [Act.put, List.setIfInBounds_toArray, List.set_cons_zero, List.set_cons_succ]
      refine wpAnyH_take (i := 21) (oi := { dst := some 53, op := Go.Op.binOp Go.BinOp.add 3 (Go.Operand.tmp 52) (Go.Operand.const (Go.Value.int Go.IntKind.i64 1)) 3, type := 3, pos := "outright.go:103", after := #[{ on := 20, ground := Go.Ground.data }], guard := none }) (v := ?_) rfl (by as_aux_lemma => kernel_rfl) (by as_aux_lemma => kernel_rfl) (by as_aux_lemma => kernel_rfl) (fun _ _ _ h => h) (Or.inl ⟨by rfl, ?_⟩) hHeld ?_
      rotate_left
      · (intro w hSw; (try dsimp only at hSw); go_simp; try with_reducible rfl)
      try simp only [Act.put, List.setIfInBounds_toArray, List.set_cons_zero, List.set_cons_succ]
      refine wpAnyH_take (i := 22) (oi := { dst := some 54, op := Go.Op.slice 48 (Go.Operand.tmp 51) (some (Go.Operand.tmp 53)) none none, type := 48, pos := "outright.go:103", after := #[{ on := 19, ground := Go.Ground.data }, { on := 21, ground := Go.Ground.data }], guard := none }) (v := ?_) rfl (by as_aux_lemma => kernel_rfl) (by as_aux_lemma => kernel_rfl) (by as_aux_lemma => kernel_rfl) (fun _ _ _ h => h) (Or.inl ⟨by rfl, ?_⟩) hHeld ?_
      rotate_left
      · (intro w hSw; (try dsimp only at hSw); go_simp; try with_reducible rfl)
      try simp only [Act.put, List.setIfInBounds_toArray, List.set_cons_zero, List.set_cons_succ]
      refine wpAnyH_take (i := 23) (oi := { dst := some 55, op := Go.Op.move (Go.Operand.tmp 2), type := 48, pos := "outright.go:103", after := #[], guard := none }) (v := ?_) rfl (by as_aux_lemma => kernel_rfl) (by as_aux_lemma => kernel_rfl) (by as_aux_lemma => kernel_rfl) (fun _ _ _ h => h) (Or.inl ⟨by rfl, ?_⟩) hHeld ?_
      rotate_left
      · (intro w hSw; (try dsimp only at hSw); go_simp; try with_reducible rfl)
      try simp only [Act.put, List.setIfInBounds_toArray, List.set_cons_zero, List.set_cons_succ]
      refine wpAnyH_take (i := 24) (oi := { dst := some 56, op := Go.Op.move (Go.Operand.tmp 7), type := 3, pos := "outright.go:103", after := #[], guard := none }) (v := ?_) rfl (by as_aux_lemma => kernel_rfl) (by as_aux_lemma => kernel_rfl) (by as_aux_lemma => kernel_rfl) (fun _ _ _ h => h) (Or.inl ⟨by rfl, ?_⟩) hHeld ?_
      rotate_left
      · (intro w hSw; (try dsimp only at hSw); go_simp; try with_reducible rfl)
      try simp only [Act.put, List.setIfInBounds_toArray, List.set_cons_zero, List.set_cons_succ]
      refine wpAnyH_take (i := 25) (oi := { dst := some 57, op := Go.Op.binOp Go.BinOp.add 3 (Go.Operand.tmp 56) (Go.Operand.const (Go.Value.int Go.IntKind.i64 1)) 3, type := 3, pos := "outright.go:103", after := #[{ on := 24, ground := Go.Ground.data }], guard := none }) (v := ?_) rfl (by as_aux_lemma => kernel_rfl) (by as_aux_lemma => kernel_rfl) (by as_aux_lemma => kernel_rfl) (fun _ _ _ h => h) (Or.inl ⟨by rfl, ?_⟩) hHeld ?_
      rotate_left
      · (intro w hSw; (try dsimp only at hSw); go_simp; try with_reducible rfl)
      try simp only [Act.put, List.setIfInBounds_toArray, List.set_cons_zero, List.set_cons_succ]
      refine wpAnyH_take (i := 26) (oi := { dst := some 58, op := Go.Op.slice 48 (Go.Operand.tmp 55) (some (Go.Operand.tmp 57)) none none, type := 48, pos := "outright.go:103", after := #[{ on := 23, ground := Go.Ground.data }, { on := 25, ground := Go.Ground.data }], guard := none }) (v := ?_) rfl (by as_aux_lemma => kernel_rfl) (by as_aux_lemma => kernel_rfl) (by as_aux_lemma => kernel_rfl) (fun _ _ _ h => h) (Or.inl ⟨by rfl, ?_⟩) hHeld ?_
      rotate_left
      · (intro w hSw; (try dsimp only at hSw); go_simp; try with_reducible rfl)
      try simp only [Act.put, List.setIfInBounds_toArray, List.set_cons_zero, List.set_cons_succ]
      refine wpAnyH_ready (rs := [14]) (by as_aux_lemma => kernel_rfl) (List.cons_ne_nil _ _) ?_
      refine AllReadyH.cons (o := { dst := some 46, op := Go.Op.call { callee := Go.Callee.value (Go.Operand.func 30), args := #[Go.Operand.tmp 39, Go.Operand.tmp 42, Go.Operand.tmp 45], argTypes := #[34, 48, 48] }, type := 32, pos := "outright.go:103", after := #[{ on := 7, ground := Go.Ground.data }, { on := 10, ground := Go.Ground.data }, { on := 13, ground := Go.Ground.data }], guard := none }) rfl (fun K hK => ?_) AllReadyH.nil
      go_simp
      refine (IH.out a han j (by omega) wd _ _ _ ((HN.out.up M2.out.bel).take (by omega)) ((HO.out.up M2.out.bel).take (by omega)) ((HR.out.up M2.out.bel).take (by omega))).mono ?_
      rintro e w3 ⟨A1, k1, c1, rfl, hE1, hb⟩
      have M3 := Lib.hid (M2.out.bl hb)
      have hzd := M2.out.r5.lt
      have hz3 := hb.size
      have HE1 := Lib.hid (er_mono hE1 (Nat.le_refl _) (Nat.le_refl _))
      have hS3 := Lib.hid (show CellS w3 bO (oO + a) (.int .i64 (o (j + a))) from CO.out w3 M3.out.bel a (by omega))
      clear hE1 hb
      go_wp2_with fail
      refine hK.out _ _ hS3 (fun hHeld2 => ?_)
      clear hK K hHeld
      have hHeld := hHeld2
      clear hHeld2
      try simp only [Act.put, List.setIfInBounds_toArray, List.set_cons_zero, List.set_cons_succ]
      refine wpAnyH_ready (rs := [27]) (by as_aux_lemma => kernel_rfl) (List.cons_ne_nil _ _) ?_
      refine AllReadyH.cons (o := { dst := some 59, op := Go.Op.call { callee := Go.Callee.value (Go.Operand.func 30), args := #[Go.Operand.tmp 50, Go.Operand.tmp 54, Go.Operand.tmp 58], argTypes := #[34, 48, 48] }, type := 32, pos := "outright.go:103", after := #[{ on := 18, ground := Go.Ground.data }, { on := 22, ground := Go.Ground.data }, { on := 26, ground := Go.Ground.data }, { on := 14, ground := Go.Ground.chain }], guard := none }) rfl (fun K hK => ?_) AllReadyH.nil
      go_simp
      refine (IH.out (n - a) (by omega) (j + (a + 1)) (by omega) w3 _ _ _ ((HN.out.up M3.out.bel).drop rfl (by omega) hTN) ((HO.out.up M3.out.bel).drop rfl (by omega) hTO) ((HR.out.up M3.out.bel).drop rfl (by omega) hTR)).mono ?_
      rintro e w4 ⟨A2, k2, c2, rfl, hE2, hb⟩
      have M4 := Lib.hid (M3.out.bl hb)
      have hz4 := hb.size
      have HE2 := Lib.hid (er_mono hE2 hz3 (Nat.le_refl _))
      have HE1b := Lib.hid (er_bel HE1.out hb)
      have hS4 := Lib.hid (show CellS w4 bO (oO + a) (.int .i64 (o (j + a))) from CO.out w4 M4.out.bel a (by omega))
      clear hE2 hb
      go_wp2_with fail
      refine hK.out _ _ hS4 (fun hHeld2 => ?_)
      clear hK K hHeld
      have hHeld := hHeld2
      clear hHeld2
      try simp only [Act.put, List.setIfInBounds_toArray, List.set_cons_zero, List.set_cons_succ]
      refine wpAnyH_ready (rs := [28]) (by as_aux_lemma => kernel_rfl) (List.cons_ne_nil _ _) ?_
      refine AllReadyH.cons (o := { dst := some 60, op := Go.Op.call { callee := Go.Callee.value (Go.Operand.func 50), args := #[Go.Operand.tmp 35, Go.Operand.tmp 46, Go.Operand.tmp 59], argTypes := #[3, 32, 32] }, type := 32, pos := "outright.go:103", after := #[{ on := 3, ground := Go.Ground.data }, { on := 14, ground := Go.Ground.data }, { on := 27, ground := Go.Ground.data }, { on := 27, ground := Go.Ground.chain }], guard := none }) rfl (fun K hK => ?_) AllReadyH.nil
      go_simp
      refine (pairN_calls _ _ _ (treeR_okE HX.out HOO.out a j (by omega)) (treeR_okE HX.out HOO.out (n - a) (j + (a + 1)) (by omega)) _ _ wd.heap.size _ (by omega) HE1b.out HE2.out).mono ?_
      rintro e w5 ⟨A3, c3, rfl, hb, hE3⟩
      have HE3 := Lib.hid hE3
      have M5 := Lib.hid (M4.out.bl hb)
      have hS5 := Lib.hid (show CellS w5 bO (oO + a) (.int .i64 (o (j + a))) from CO.out w5 M5.out.bel a (by omega))
      clear hb hE3
      go_wp2_with fail
      refine hK.out _ _ hS5 (fun hHeld2 => ?_)
      clear hK K hHeld
      have hHeld := hHeld2
      clear hHeld2
      try simp only [Act.put, List.setIfInBounds_toArray, List.set_cons_zero, List.set_cons_succ]
      refine wpAnyH_ready (rs := [29]) (by as_aux_lemma => kernel_rfl) (List.cons_ne_nil _ _) ?_
      refine AllReadyH.cons (o := { dst := none, op := Go.Op.store 32 (Go.Operand.tmp 6) (Go.Operand.tmp 60), type := 0, pos := "outright.go:103", after := #[{ on := 28, ground := Go.Ground.data }, { on := 28, ground := Go.Ground.chain }, { on := 0, ground := Go.Ground.phase }, { on := 1, ground := Go.Ground.phase }, { on := 2, ground := Go.Ground.phase }, { on := 3, ground := Go.Ground.phase }, { on := 4, ground := Go.Ground.phase }, { on := 5, ground := Go.Ground.phase }, { on := 6, ground := Go.Ground.phase }, { on := 7, ground := Go.Ground.phase }, { on := 8, ground := Go.Ground.phase }, { on := 9, ground := Go.Ground.phase }, { on := 10, ground := Go.Ground.phase }, { on := 11, ground := Go.Ground.phase }, { on := 12, ground := Go.Ground.phase }, { on := 13, ground := Go.Ground.phase }, { on := 14, ground := Go.Ground.phase }, { on := 15, ground := Go.Ground.phase }, { on := 16, ground := Go.Ground.phase }, { on := 17, ground := Go.Ground.phase }, { on := 18, ground := Go.Ground.phase }, { on := 19, ground := Go.Ground.phase }, { on := 20, ground := Go.Ground.phase }, { on := 21, ground := Go.Ground.phase }, { on := 22, ground := Go.Ground.phase }, { on := 23, ground := Go.Ground.phase }, { on := 24, ground := Go.Ground.phase }, { on := 25, ground := Go.Ground.phase }, { on := 26, ground := Go.Ground.phase }, { on := 27, ground := Go.Ground.phase }, { on := 28, ground := Go.Ground.phase }], guard := none }) rfl (fun K hK => ?_) AllReadyH.nil
      obtain ⟨z0, z1, z2, z3, z4, r0, r1, r2, r3, r4, y0, y1, y2, y3, y4⟩ := M5.out.r5.facts
      go_wp2_with fail
      refine hK.out _ _ (Lib.hid (cell_put hHeld.out (by omega) _ _ _ _ _)) (fun _ => ?_)
      clear hK K
      try simp only [Act.put, List.setIfInBounds_toArray, List.set_cons_zero, List.set_cons_succ]
      refine wpAnyH_done (by kernel_rfl) ?_ _
      refine NoPanic.normal ?_
      go_wp2_with fail
      refine bodyPost_ret (v := S3.eV (pE (o (j + a)) (treeR x o r j a) (treeR x o r (j + (a + 1)) (n - a))) (.slice A3 2 c3)) (by simp [results, Tryz.results30, go_sem, r0, r1, r2, r3, r4]) rfl ?_
      have htr : treeR x o r j (n + 1) = pE (o (j + a)) (treeR x o r j a) (treeR x o r (j + (a + 1)) (n - a)) := by
        rw [treeR_split hla, show j + a - j = a by omega, show j + n - (j + a) = n - a by omega, Nat.add_assoc]
      rw [htr]
      exact M5.out.done (t := pE (o (j + a)) (treeR x o r j a) (treeR x o r (j + (a + 1)) (n - a))) (n := wd.heap.size) (by omega) HE3.out _ _ _ _ _
theorem split_calls {x : Nat → Bytes} {o r : Nat → Int} {N : Nat} (hx : ∀ j, j ≤ N → (x j).length ≤ 1000) (ho : ∀ j, j < N → 0 ≤ o j ∧ o j ≤ 100) (hN0 : N ≤ 1000) (n : Nat) : ∀ j, j + n ≤ N → ∀ (w : World) (vN vO vR : Value), VL w w.heap.size vN (fun i => .string (B (x i))) j (n + 1) → VL w w.heap.size vO (fun i => .int .i64 (o i)) j n → VL w w.heap.size vR (fun i => .int .i64 (r i)) j n → Calls Tryz.prog 30 #[vN, vO, vR] w (SplP w (treeR x o r j n)) := by
  induction n using Nat.strongRecOn with
  | _ n ih =>
    intro j hj w vN vO vR h1 h2 h3
    cases n with
    | zero => exact split_zero x o r j w vN vO vR h1 h2 h3
    | succ n => exact split_succ hx ho n j hj hN0 (fun m hm => ih m (by omega)) w vN vO vR h1 h2 h3
end Go.Proofs.YtoldhocdfkndbaaGreatDoor.E5

namespace Go.Proofs.YtoldhocdfkndbaaGreatDoor.E5
open Go Go.RowKit Go.Proofs.YtoldhocdfkndbaaGreatDoor

theorem row_vl {w : World} {base n : Nat} {T : TypeId} {v : Value} {f : Nat → Value} (h : w.ownsRow base T 1 v n ((List.range n).map f)) : VL w w.heap.size v f 0 n := by
  obtain ⟨_, h | ⟨g, cap, cur, rfl, _, hg, h1, h2, h3, h4⟩⟩ := h
  · obtain ⟨rfl, rfl⟩ := h
    exact ⟨none, 0, rfl, Nat.le_refl _, by decide, fun i hi => by omega⟩
  · refine ⟨_, cap, rfl, h1, by unfold maxLen at h2; omega, fun i hi => ⟨g, 0, rfl, lt_of_block hg, ?_⟩⟩
    have h5 : (cur.toList.take (n * 1))[i]? = some (f i) := by rw [h4]; simp [hi]
    rw [List.getElem?_take, if_pos (by omega)] at h5
    simp only [Nat.zero_add]
    refine (cell_of_row w _ i _ _ _ hg).trans ?_
    simpa using h5
def nL (k : Nat) : List Value := (List.range (k + 1)).map fun q => Value.string (B (xR q))
def oL (l : List Nat) (k : Nat) : List Value := (List.range k).map fun q => Value.int .i64 (oR l q)
def rL (l : List Nat) (k : Nat) : List Value := (List.range k).map fun q => Value.int .i64 (rR l q)
theorem nL_succ (k : Nat) : nL (k + 1) = nL k ++ [.string (B (mN k))] := by
  unfold nL
  rw [List.range_succ (n := k + 1), List.map_append]
  rfl
theorem oL_succ (l : List Nat) (k : Nat) : oL l (k + 1) = oL l k ++ [.int .i64 (oR l k)] := by
  unfold oL
  rw [List.range_succ, List.map_append]
  rfl
theorem rL_succ (l : List Nat) (k : Nat) : rL l (k + 1) = rL l k ++ [.int .i64 (rR l k)] := by
  unfold rL
  rw [List.range_succ, List.map_append]
  rfl
structure Tri (w wr : World) (l : List Nat) (k : Nat) (vN vO vR : Value) : Prop where
  n : wr.ownsRow w.heap.size 9 1 vN (k + 1) (nL k)
  o : wr.ownsRow w.heap.size 3 1 vO k (oL l k)
  r : wr.ownsRow w.heap.size 3 1 vR k (rL l k)
  dno : ∀ b, vN.ownBlock = some b → vO.ownBlock ≠ some b
  dnr : ∀ b, vN.ownBlock = some b → vR.ownBlock ≠ some b
  dor : ∀ b, vO.ownBlock = some b → vR.ownBlock ≠ some b
  bel : Below w.heap.size w wr
theorem Tri.bl {w wr w' : World} {l : List Nat} {k : Nat} {vN vO vR : Value} (h : Tri w wr l k vN vO vR) (hb : Below wr.heap.size wr w') : Tri w w' l k vN vO vR :=
  ⟨own_keep h.n fun g hg => hb.block g (h.n.lt g hg).2, own_keep h.o fun g hg => hb.block g (h.o.lt g hg).2, own_keep h.r fun g hg => hb.block g (h.r.lt g hg).2, h.dno, h.dnr, h.dor, h.bel.trans (hb.mono h.bel.size)⟩
def TriStep (w wr : World) (l : List Nat) (k : Nat) (vN vO vR : Value) : Prop :=
  ∃ gN cN u1, (Builtin.append_ #[34, 34] 34 #[vN, .slice (some ⟨wr.heap.size, 0, none⟩) 1 1]).run Tryz.prog (wr.alloc (.cells #[.string (B (mN k))] 9)) = .ok (.slice (some ⟨gN, 0, none⟩) (k + 2) cN) u1 ∧
  ∃ gO cO u2, (Builtin.append_ #[48, 48] 48 #[vO, .slice (some ⟨u1.heap.size, 0, none⟩) 1 1]).run Tryz.prog (u1.alloc (.cells #[.int .i64 (oR l k)] 3)) = .ok (.slice (some ⟨gO, 0, none⟩) (k + 1) cO) u2 ∧
  ∃ gR cR u3, (Builtin.append_ #[48, 48] 48 #[vR, .slice (some ⟨u2.heap.size, 0, none⟩) 1 1]).run Tryz.prog (u2.alloc (.cells #[.int .i64 (rR l k)] 3)) = .ok (.slice (some ⟨gR, 0, none⟩) (k + 1) cR) u3 ∧
  Tri w u3 l (k + 1) (.slice (some ⟨gN, 0, none⟩) (k + 2) cN) (.slice (some ⟨gO, 0, none⟩) (k + 1) cO) (.slice (some ⟨gR, 0, none⟩) (k + 1) cR)
theorem Tri.step {w wr : World} {l : List Nat} {k : Nat} {vN vO vR : Value} (h : Tri w wr l k vN vO vR) (hk : k ≤ 100) : TriStep w wr l k vN vO vR := by
  obtain ⟨iS, hS, hS0, hS1, hS2⟩ := L4.info_partsT infoStr
  obtain ⟨iI, hI, hI0, hI1, hI2⟩ := L4.info_partsT infoInt
  obtain ⟨gN, cN, u1, r1, a1, g1, t1⟩ := own_app Tryz.underlying34 hS hS0 hS1 hS2 rfl (by decide) h.n h.bel.size (by omega) (.string (B (mN k))) rfl 34
  obtain ⟨o1, dO1⟩ := own_side h.o h.dno g1 t1
  obtain ⟨r1', dR1⟩ := own_side h.r h.dnr g1 t1
  have b1 := own_bel h.n h.bel g1
  obtain ⟨gO, cO, u2, r2, a2, g2, t2⟩ := own_app Tryz.underlying48 hI hI0 hI1 hI2 rfl (by decide) o1 b1.size (by omega) (.int .i64 (oR l k)) rfl 48
  obtain ⟨n2, dN2⟩ := own_side a1 (fun b hb e => by cases e; exact dO1 hb) g2 t2
  obtain ⟨r2', dR2⟩ := own_side r1' h.dor g2 t2
  have b2 := own_bel o1 b1 g2
  obtain ⟨gR, cR, u3, r3, a3, g3, t3⟩ := own_app Tryz.underlying48 hI hI0 hI1 hI2 rfl (by decide) r2' b2.size (by omega) (.int .i64 (rR l k)) rfl 48
  obtain ⟨n3, dN3⟩ := own_side n2 (fun b hb e => by cases e; exact dR1 hb) g3 t3
  obtain ⟨o3, dO3⟩ := own_side a2 (fun b hb e => by cases e; exact dR2 hb) g3 t3
  have b3 := own_bel r2' b2 g3
  refine ⟨gN, cN, u1, r1, gO, cO, u2, r2, gR, cR, u3, r3, by rw [nL_succ]; exact n3, by rw [oL_succ]; exact o3, by rw [rL_succ]; exact a3, ?_, ?_, ?_, b3⟩
  · intro b e1 e2
    cases e1
    exact dN2 (by cases e2; rfl)
  · intro b e1 e2
    cases e1
    exact dN3 (by cases e2; rfl)
  · intro b e1 e2
    cases e1
    exact dO3 (by cases e2; rfl)
theorem Tri.start (w w0 : World) (hb : Below w.heap.size w w0) (l : List Nat) : Tri w (w0.alloc (.cells #[.string ⟨#[110]⟩] 9)) l 0 (.slice (some ⟨w0.heap.size, 0, none⟩) 1 1) (.slice none 0 0) (.slice none 0 0) :=
  ⟨⟨rfl, .inr ⟨w0.heap.size, 1, _, rfl, hb.size, heap_alloc_new w0 _, Nat.le_refl _, by decide, rfl, rfl⟩⟩, World.ownsRow_nil _ _ _ _, World.ownsRow_nil _ _ _ _, fun b _ e => (by cases e), fun b _ e => (by cases e), fun b _ e => (by cases e), hb.alloc hb.size _⟩
end Go.Proofs.YtoldhocdfkndbaaGreatDoor.E5

namespace Go.Proofs.YtoldhocdfkndbaaGreatDoor.E5
open Go Go.RowKit Go.Proofs.YtoldhocdfkndbaaGreatDoor

theorem itoa_calls (n : Nat) (hn : n ≤ 1000) (w : World) (hG : L4.Glob w) : Calls Tryz.prog 29 #[.int .i64 (n : Int)] w fun e w' => e = .returned (.string (B (Lib.decDigits n))) ∧ Below w.heap.size w w' :=
  (Tryz.strconv_Itoa (n : Int) (by omega) (by omega) w hG.tab).mono fun _ _ ⟨he, k, os, hw⟩ => ⟨by rw [he, Lib.itoa_nonneg], by rw [hw]; exact Lib.below_grow _ _ (Nat.le_refl _) k os⟩
theorem mN_cat (k : Nat) : ((⟨#[109]⟩ : ByteArray) ++ B (Lib.decDigits k) : ByteArray) = B (mN k) := B_two _ _
theorem bx_up {w w' : World} {z : Nat} {e : Ex} {v : Value} (h : S3.EBox w z e v) (hb : Below w.heap.size w w') : S3.EBox w' z e v := h.keep hb (World.block_lt_of_cell? _ _ h.c0)
theorem own_slice {w : World} {base n : Nat} {T : TypeId} {v : Value} {xs : List Value} (h : w.ownsRow base T 1 v n xs) : ∃ A c, v = .slice A n c := by
  obtain ⟨_, h | ⟨g, cap, cur, rfl, _⟩⟩ := h
  · obtain ⟨rfl, rfl⟩ := h
    exact ⟨none, 0, rfl⟩
  · exact ⟨_, _, rfl⟩
set_option maxRecDepth 100000 in
set_option maxHeartbeats 8000000 in
theorem ranks_law (hWk : WorksR) (ds : List Nat) (v : Value) (w : World) (hL : ByL w v ds) (hG : GlobA w) :
    Calls Tryz.prog 5 #[v] w fun e w' => e = .returned (.bool true) ∧ Below w.heap.size w w' := by
  obtain ⟨A, c, rfl, hlc, hc, h255, hcell⟩ := hL
  obtain ⟨n0, hk, hk1, hk2⟩ : ∃ k : Nat, min (ds.length : Int) 12 = (k : Int) ∧ k ≤ ds.length ∧ k ≤ 12 := ⟨min ds.length 12, by omega, by omega, by omega⟩
  have hkc : n0 ≤ c := by omega
  have hB0 : Below w.heap.size w w := Below.refl _ _
  have HT0 := Lib.hid (Tri.start w w hB0 ds)
  have HCe := Lib.hid hcell
  have H255 := Lib.hid h255
  have HWk := Lib.hid hWk
  have HG := Lib.hid hG
  have hr0 : rkS ds 0 = [110] := rfl
  clear hcell h255 hWk hG hB0
  go_enter Tryz.func5, Tryz.ntmps5
  try simp only [List.append_eq, List.cons_append, List.nil_append]
  go_wp2_with fail
  generalize w.alloc (.cells #[.string ⟨#[110]⟩] 9) = w1 at *
  go_loopw [3, 4, 5, 6, 24] (fun vN vO vR s i wr => ∃ k : Nat, k ≤ n0 ∧ i = .int .i64 (k : Int) ∧ s = .string (B (rkS ds k)) ∧ Hid (Tri w wr ds k vN vO vR)) (fun _ _ _ _ i _ => n0 - (intOf i).toNat)
  case atStart => exact ⟨0, by omega, rfl, by rw [hr0], HT0⟩
  case round =>
    clear HT0
    obtain ⟨k, hkn, rfl, rfl, HI⟩ := hrel
    by_cases hlt : k < n0
    · obtain ⟨x, hx⟩ : ∃ x, ds[k]? = some x := ⟨_, List.getElem?_eq_getElem (by omega)⟩
      have hx255 := H255.out x (List.mem_of_getElem? hx)
      obtain ⟨b, of, hA, hbw, hce⟩ := HCe.out k x hx
      subst hA
      have hcw := (HI.out.bel.cell (p := ⟨b, of + k, none⟩) hbw).trans hce
      have hoR : oR ds k = 1 + (x : Int) % 13 := by unfold oR; rw [List.getD_eq_getElem?_getD, hx]; simp only [Option.getD_some]; omega
      obtain ⟨hs1, hs2, hs3, _⟩ := signB_bin (oR_in ds k)
      have hrR : (opB (signB (oR ds k))).2 = rR ds k := rfl
      rw [hrR] at hs1 hs2 hs3
      have hl0 := rk_len ds k (by omega)
      have hl1 := sign_len (oR ds k)
      have hl2 := mN_len k (by omega)
      have hl3 : (mN k).length = (Lib.decDigits k).length + 1 := rfl
      have hsu := rkS_succ ds k
      have hx0 : (x : Int) ≤ 255 := by omega
      have d1 : (k : Int) < (n0 : Int) := by omega
      rw [hoR] at hs1 hsu hl1
      have g2 : ¬ rR ds k < 1 := by omega
      have g3 : ¬ 5 < rR ds k := by omega
      have m1 : ¬ 9223372036854775807 < 1 + (Lib.decDigits k).length := by omega
      have m2 : ¬ 9223372036854775807 < (rkS ds k).length + 1 := by omega
      have m3 : ¬ 9223372036854775807 < (rkS ds k).length + 1 + (signB (1 + (x : Int) % 13)).length := by omega
      have m4 : ¬ 9223372036854775807 < (rkS ds k).length + 1 + (signB (1 + (x : Int) % 13)).length + 1 := by omega
      have m5 : ¬ 9223372036854775807 < (rkS ds k).length + 1 + (signB (1 + (x : Int) % 13)).length + 1 + ((Lib.decDigits k).length + 1) := by omega
      go_wp2_with fail
      refine (sign_calls (1 + (x : Int) % 13) wr (HG.out.up HI.out.bel).e.o).mono ?_
      rintro e w2 ⟨rfl, hb⟩
      have HI2 := Lib.hid (HI.out.bl hb)
      clear hb
      go_wp2_with fail
      have hop := op_calls (signB (1 + (x : Int) % 13)) w2 (HG.out.up HI2.out.bel).e.o
      simp only [hs1] at hop
      refine hop.mono ?_
      clear hop
      rintro e w3 ⟨rfl, hb⟩
      have HI3 := Lib.hid (HI2.out.bl hb)
      clear hb hs1
      go_wp2_with fail
      refine (itoa_calls k (by omega) w3 (HG.out.up HI3.out.bel).l).mono ?_
      rintro e w4 ⟨rfl, hb⟩
      have HI4 := Lib.hid (HI3.out.bl hb)
      have hst := HI4.out.step (by omega)
      unfold TriStep at hst
      rw [hoR, ← mN_cat] at hst
      obtain ⟨gN, cN, u1, hr1, gO, cO, u2, hr2, gR, cR, u3, hr3, hT⟩ := hst
      have R1 := Lib.hid hr1
      have R2 := Lib.hid hr2
      have R3 := Lib.hid hr3
      have HT := Lib.hid hT
      have hfin : (B (rkS ds k) ++ (⟨#[32]⟩ : ByteArray) ++ B (signB (1 + (x : Int) % 13)) ++ (⟨#[32]⟩ : ByteArray) ++ ((⟨#[109]⟩ : ByteArray) ++ B (Lib.decDigits k))) = B (rkS ds (k + 1)) := by
        rw [mN_cat, hsu]
        show B (rkS ds k) ++ B [32] ++ B (signB (1 + (x : Int) % 13)) ++ B [32] ++ B (mN k) = _
        rw [B_two, B_two, B_two, B_two]
        simp
      have HF := Lib.hid hfin
      clear hb hr1 hr2 hr3 hT hfin hsu hcw
      go_wp2_with (at_builtin; first | refine Lib.wpList_append_run _ rfl _ _ _ _ rfl _ _ rfl rfl _ _ R1.out ?_ | refine Lib.wpList_append_run _ rfl _ _ _ _ rfl _ _ rfl rfl _ _ R2.out ?_ | refine Lib.wpList_append_run _ rfl _ _ _ _ rfl _ _ rfl rfl _ _ R3.out ?_)
      go_round
      case rel => exact ⟨k + 1, by omega, by go_num, by rw [HF.out], HT⟩
      case measure => simp [intOf]; omega
    · obtain rfl : k = n0 := by omega
      have hl0 := rk_len ds k (by omega)
      go_wp2_with fail
      refine (scan_own (rkS ds k) (by omega) wr (HG.out.up HI.out.bel).l).mono ?_
      rintro e w2 ⟨A2, c2, rfl, hc2, _, hGr, hb⟩
      have HI2 := Lib.hid (HI.out.bl hb)
      have hlen : (tlS (rkS ds k)).length = 2 * k + 1 := by rw [rk_tl ds k hk2, List.length_map, rkI_len]
      have hTk := tokL_grA hGr (by omega)
      have hP := parse_calls (i := 0) (d := 0) hTk (HG.out.up HI2.out.bel).e (Nat.zero_le _) (by decide)
      rw [rk_parse ds k hk2] at hP
      have HP := Lib.hid hP
      clear hGr hb hTk hP hlen
      go_wp2_with fail
      refine HP.out.mono ?_
      rintro E w3 ⟨A3, k3, c3, rfl, hoE, hE3, hb⟩
      have HI3 := Lib.hid (HI2.out.bl hb)
      have HE3 := Lib.hid (er_in hE3 (Nat.le_refl _))
      clear hb hE3 HP
      have hEx : S3.exB (treeR xR (oR ds) (rR ds) 0 k) = true := (treeR_gd (k := k) (fun j hj => xR_ok (by omega)) (fun j _ => oR_in ds j) k 0 (by omega)).exB (by omega)
      have HSp := Lib.hid (fun (W : World) (a b c : Value) h1 h2 h3 => split_calls (x := xR) (o := oR ds) (r := rR ds) (N := 12) (fun j hj => by have := xR_ok hj; simp only [S3.nameB, Bool.and_eq_true, decide_eq_true_eq] at this; omega) (fun j _ => by have := oR_in ds j; omega) (by decide) k 0 (by omega) W a b c h1 h2 h3)
      obtain ⟨AO, cO, rfl⟩ := own_slice HI3.out.o
      generalize treeR xR (oR ds) (rR ds) 0 k = t at *
      have hb0 := S3.bal w3 (S3.eO t (.slice A3 k3 c3))
      have hbd := bal_dr (w3.alloc (S3.eO t (.slice A3 k3 c3)))
      have HI4 := Lib.hid ((HI3.out.bl hb0).bl hbd)
      have HE4 := Lib.hid ((HE3.out.up hb0).up hbd)
      have hS0 := Lib.hid (bx_up (S3.EBox.new w3 t (.slice A3 k3 c3)) hbd)
      have q1 : IntKind.i64.wrap (2 * (k : Int)) = 2 * (k : Int) := IntWalk.i64_in _ (by omega)
      have q2 : IntKind.i64.wrap (2 * (k : Int) + 1) = 2 * (k : Int) + 1 := IntWalk.i64_in _ (by omega)
      have q3 : ((2 * (k : Int) + 1) == 2 * (k : Int) + 1) = true := by simp
      have qa0 := fun W1 (h : Hid (S3.EBox W1 w3.heap.size t (.slice A3 k3 c3))) => h.out.c0
      have qa1 := fun W1 (h : Hid (S3.EBox W1 w3.heap.size t (.slice A3 k3 c3))) => h.out.c1
      have qa2 := fun W1 (h : Hid (S3.EBox W1 w3.heap.size t (.slice A3 k3 c3))) => h.out.c2
      have qa3 := fun W1 (h : Hid (S3.EBox W1 w3.heap.size t (.slice A3 k3 c3))) => h.out.c3
      have qa4 := fun W1 (h : Hid (S3.EBox W1 w3.heap.size t (.slice A3 k3 c3))) => h.out.c4
      clear hb0 hbd HI HI2 HI3 HE3
      go_wp2_with fail
      refine wp_region_noPanic ?_
      refine wp_region_held_drew (S := fun W1 => Hid (S3.EBox W1 w3.heap.size t (.slice A3 k3 c3))) (by kernel_rfl) hS0 (fun hHeld => ?_)
      clear hS0
      generalize (w3.alloc (S3.eO t (.slice A3 k3 c3))).drew = wd at *
      refine wpAnyH_take (i := 0) (oi := { dst := some 81, op := Go.Op.move (Go.Operand.tmp 16), type := 39, pos := "outright.go:122", after := #[], guard := none }) (v := ?_) rfl (by as_aux_lemma => kernel_rfl) (by as_aux_lemma => kernel_rfl) (by as_aux_lemma => kernel_rfl) (fun _ _ _ h => h) (Or.inl ⟨by rfl, ?_⟩) hHeld ?_
      rotate_left
      · (intro w hSw; (try dsimp only at hSw); go_simp; try with_reducible rfl)
      try simp only [Act.put, List.setIfInBounds_toArray, List.set_cons_zero, List.set_cons_succ]
      refine wpAnyH_take (i := 1) (oi := { dst := some 82, op := Go.Op.binOp Go.BinOp.eql 39 (Go.Operand.tmp 81) (Go.Operand.const (Go.Value.int Go.IntKind.i64 0)) 39, type := 4, pos := "outright.go:122", after := #[{ on := 0, ground := Go.Ground.data }], guard := none }) (v := ?_) rfl (by as_aux_lemma => kernel_rfl) (by as_aux_lemma => kernel_rfl) (by as_aux_lemma => kernel_rfl) (fun _ _ _ h => h) (Or.inl ⟨by rfl, ?_⟩) hHeld ?_
      rotate_left
      · (intro w hSw; (try dsimp only at hSw); go_simp; try with_reducible rfl)
      try simp only [Act.put, List.setIfInBounds_toArray, List.set_cons_zero, List.set_cons_succ]
      refine wpAnyH_take (i := 2) (oi := { dst := some 83, op := Go.Op.move (Go.Operand.tmp 82), type := 4, pos := "outright.go:122", after := #[{ on := 1, ground := Go.Ground.data }], guard := none }) (v := ?_) rfl (by as_aux_lemma => kernel_rfl) (by as_aux_lemma => kernel_rfl) (by as_aux_lemma => kernel_rfl) (fun _ _ _ h => h) (Or.inl ⟨by rfl, ?_⟩) hHeld ?_
      rotate_left
      · (intro w hSw; (try dsimp only at hSw); go_simp; try with_reducible rfl)
      try simp only [Act.put, List.setIfInBounds_toArray, List.set_cons_zero, List.set_cons_succ]
      refine wpAnyH_take (i := 3) (oi := { dst := some 84, op := Go.Op.move (Go.Operand.tmp 15), type := 3, pos := "outright.go:122", after := #[{ on := 2, ground := Go.Ground.guard }], guard := some (2, true) }) (v := ?_) rfl (by as_aux_lemma => kernel_rfl) (by as_aux_lemma => kernel_rfl) (by as_aux_lemma => kernel_rfl) (fun _ _ _ h => h) (Or.inl ⟨by rfl, ?_⟩) hHeld ?_
      rotate_left
      · (intro w hSw; (try dsimp only at hSw); go_simp; try with_reducible rfl)
      try simp only [Act.put, List.setIfInBounds_toArray, List.set_cons_zero, List.set_cons_succ]
      refine wpAnyH_take (i := 4) (oi := { dst := some 85, op := Go.Op.move (Go.Operand.tmp 4), type := 48, pos := "outright.go:122", after := #[{ on := 2, ground := Go.Ground.guard }], guard := some (2, true) }) (v := ?_) rfl (by as_aux_lemma => kernel_rfl) (by as_aux_lemma => kernel_rfl) (by as_aux_lemma => kernel_rfl) (fun _ _ _ h => h) (Or.inl ⟨by rfl, ?_⟩) hHeld ?_
      rotate_left
      · (intro w hSw; (try dsimp only at hSw); go_simp; try with_reducible rfl)
      try simp only [Act.put, List.setIfInBounds_toArray, List.set_cons_zero, List.set_cons_succ]
      refine wpAnyH_take (i := 5) (oi := { dst := some 86, op := Go.Op.call { callee := Go.Callee.builtin Go.Builtin.len, args := #[Go.Operand.tmp 85], argTypes := #[48] }, type := 3, pos := "outright.go:122", after := #[{ on := 4, ground := Go.Ground.data }, { on := 2, ground := Go.Ground.guard }], guard := some (2, true) }) (v := ?_) rfl (by as_aux_lemma => kernel_rfl) (by as_aux_lemma => kernel_rfl) (by as_aux_lemma => kernel_rfl) (fun _ _ _ h => h) (Or.inl ⟨by rfl, ?_⟩) hHeld ?_
      rotate_left
      · (intro w hSw; (try dsimp only at hSw); go_simp; try with_reducible rfl)
      try simp only [Act.put, List.setIfInBounds_toArray, List.set_cons_zero, List.set_cons_succ]
      refine wpAnyH_take (i := 6) (oi := { dst := some 87, op := Go.Op.binOp Go.BinOp.mul 3 (Go.Operand.const (Go.Value.int Go.IntKind.i64 2)) (Go.Operand.tmp 86) 3, type := 3, pos := "outright.go:122", after := #[{ on := 5, ground := Go.Ground.data }, { on := 2, ground := Go.Ground.guard }], guard := some (2, true) }) (v := ?_) rfl (by as_aux_lemma => kernel_rfl) (by as_aux_lemma => kernel_rfl) (by as_aux_lemma => kernel_rfl) (fun _ _ _ h => h) (Or.inl ⟨by rfl, ?_⟩) hHeld ?_
      rotate_left
      · (intro w hSw; (try dsimp only at hSw); go_simp; try with_reducible rfl)
      try simp only [Act.put, List.setIfInBounds_toArray, List.set_cons_zero, List.set_cons_succ]
      refine wpAnyH_take (i := 7) (oi := { dst := some 88, op := Go.Op.binOp Go.BinOp.add 3 (Go.Operand.tmp 87) (Go.Operand.const (Go.Value.int Go.IntKind.i64 1)) 3, type := 3, pos := "outright.go:122", after := #[{ on := 6, ground := Go.Ground.data }, { on := 2, ground := Go.Ground.guard }], guard := some (2, true) }) (v := ?_) rfl (by as_aux_lemma => kernel_rfl) (by as_aux_lemma => kernel_rfl) (by as_aux_lemma => kernel_rfl) (fun _ _ _ h => h) (Or.inl ⟨by rfl, ?_⟩) hHeld ?_
      rotate_left
      · (intro w hSw; (try dsimp only at hSw); go_simp; try with_reducible rfl)
      try simp only [Act.put, List.setIfInBounds_toArray, List.set_cons_zero, List.set_cons_succ]
      refine wpAnyH_take (i := 8) (oi := { dst := some 89, op := Go.Op.binOp Go.BinOp.eql 3 (Go.Operand.tmp 84) (Go.Operand.tmp 88) 3, type := 4, pos := "outright.go:122", after := #[{ on := 3, ground := Go.Ground.data }, { on := 7, ground := Go.Ground.data }, { on := 2, ground := Go.Ground.guard }], guard := some (2, true) }) (v := ?_) rfl (by as_aux_lemma => kernel_rfl) (by as_aux_lemma => kernel_rfl) (by as_aux_lemma => kernel_rfl) (fun _ _ _ h => h) (Or.inl ⟨by rfl, ?_⟩) hHeld ?_
      rotate_left
      · (intro w hSw; (try dsimp only at hSw); go_simp; try with_reducible rfl)
      try simp only [Act.put, List.setIfInBounds_toArray, List.set_cons_zero, List.set_cons_succ]
      refine wpAnyH_take (i := 9) (oi := { dst := some 90, op := Go.Op.pick (Go.Operand.tmp 83) (Go.Operand.tmp 89) (Go.Operand.const (Go.Value.bool false)), type := 4, pos := "outright.go:122", after := #[{ on := 2, ground := Go.Ground.data }, { on := 8, ground := Go.Ground.data }], guard := none }) (v := ?_) rfl (by as_aux_lemma => kernel_rfl) (by as_aux_lemma => kernel_rfl) (by as_aux_lemma => kernel_rfl) (fun _ _ _ h => h) (Or.inl ⟨by rfl, ?_⟩) hHeld ?_
      rotate_left
      · (intro w hSw; (try dsimp only at hSw); go_simp; try with_reducible rfl)
      try simp only [Act.put, List.setIfInBounds_toArray, List.set_cons_zero, List.set_cons_succ]
      refine wpAnyH_take (i := 10) (oi := { dst := some 91, op := Go.Op.move (Go.Operand.tmp 90), type := 4, pos := "outright.go:122", after := #[{ on := 9, ground := Go.Ground.data }, { on := 2, ground := Go.Ground.chain }], guard := none }) (v := ?_) rfl (by as_aux_lemma => kernel_rfl) (by as_aux_lemma => kernel_rfl) (by as_aux_lemma => kernel_rfl) (fun _ _ _ h => h) (Or.inl ⟨by rfl, ?_⟩) hHeld ?_
      rotate_left
      · (intro w hSw; (try dsimp only at hSw); go_simp; try with_reducible rfl)
      try simp only [Act.put, List.setIfInBounds_toArray, List.set_cons_zero, List.set_cons_succ]
      refine wpAnyH_take (i := 11) (oi := { dst := some 92, op := Go.Op.load 32 (Go.Operand.tmp 14), type := 32, pos := "outright.go:122", after := #[{ on := 10, ground := Go.Ground.guard }], guard := some (10, true) }) (v := ?_) rfl (by as_aux_lemma => kernel_rfl) (by as_aux_lemma => kernel_rfl) (by as_aux_lemma => kernel_rfl) (fun _ _ _ h => h) (Or.inl ⟨by rfl, ?_⟩) hHeld ?_
      rotate_left
      · (intro w hSw; (try dsimp only at hSw); go_simp; try with_reducible rfl)
      try simp only [Act.put, List.setIfInBounds_toArray, List.set_cons_zero, List.set_cons_succ]
      refine wpAnyH_take (i := 12) (oi := { dst := some 93, op := Go.Op.move (Go.Operand.tmp 3), type := 34, pos := "outright.go:122", after := #[{ on := 10, ground := Go.Ground.guard }], guard := some (10, true) }) (v := ?_) rfl (by as_aux_lemma => kernel_rfl) (by as_aux_lemma => kernel_rfl) (by as_aux_lemma => kernel_rfl) (fun _ _ _ h => h) (Or.inl ⟨by rfl, ?_⟩) hHeld ?_
      rotate_left
      · (intro w hSw; (try dsimp only at hSw); go_simp; try with_reducible rfl)
      try simp only [Act.put, List.setIfInBounds_toArray, List.set_cons_zero, List.set_cons_succ]
      refine wpAnyH_take (i := 13) (oi := { dst := some 94, op := Go.Op.move (Go.Operand.tmp 4), type := 48, pos := "outright.go:122", after := #[{ on := 10, ground := Go.Ground.guard }], guard := some (10, true) }) (v := ?_) rfl (by as_aux_lemma => kernel_rfl) (by as_aux_lemma => kernel_rfl) (by as_aux_lemma => kernel_rfl) (fun _ _ _ h => h) (Or.inl ⟨by rfl, ?_⟩) hHeld ?_
      rotate_left
      · (intro w hSw; (try dsimp only at hSw); go_simp; try with_reducible rfl)
      try simp only [Act.put, List.setIfInBounds_toArray, List.set_cons_zero, List.set_cons_succ]
      refine wpAnyH_take (i := 14) (oi := { dst := some 95, op := Go.Op.move (Go.Operand.tmp 5), type := 48, pos := "outright.go:122", after := #[{ on := 10, ground := Go.Ground.guard }], guard := some (10, true) }) (v := ?_) rfl (by as_aux_lemma => kernel_rfl) (by as_aux_lemma => kernel_rfl) (by as_aux_lemma => kernel_rfl) (fun _ _ _ h => h) (Or.inl ⟨by rfl, ?_⟩) hHeld ?_
      rotate_left
      · (intro w hSw; (try dsimp only at hSw); go_simp; try with_reducible rfl)
      try simp only [Act.put, List.setIfInBounds_toArray, List.set_cons_zero, List.set_cons_succ]
      refine wpAnyH_ready (rs := [15]) (by as_aux_lemma => kernel_rfl) (List.cons_ne_nil _ _) ?_
      refine AllReadyH.cons (o := { dst := some 96, op := Go.Op.call { callee := Go.Callee.value (Go.Operand.func 30), args := #[Go.Operand.tmp 93, Go.Operand.tmp 94, Go.Operand.tmp 95], argTypes := #[34, 48, 48] }, type := 32, pos := "outright.go:122", after := #[{ on := 12, ground := Go.Ground.data }, { on := 13, ground := Go.Ground.data }, { on := 14, ground := Go.Ground.data }, { on := 10, ground := Go.Ground.chain }, { on := 10, ground := Go.Ground.guard }], guard := some (10, true) }) rfl (fun K hK => ?_) AllReadyH.nil
      go_simp
      refine (HSp.out wd u3 (.slice AO k cO) u5 (row_vl (f := fun q => .string (B (xR q))) HI4.out.n) (row_vl (f := fun q => .int .i64 (oR ds q)) HI4.out.o) (row_vl (f := fun q => .int .i64 (rR ds q)) HI4.out.r)).mono ?_
      rintro e w5 ⟨A5, k5, c5, rfl, hE5, hb⟩
      have HI5 := Lib.hid (HI4.out.bl hb)
      have HE5 := Lib.hid (er_in hE5 (Nat.le_refl _))
      have HEg := Lib.hid (HE4.out.up hb)
      have hS5 := Lib.hid (bx_up hHeld.out hb)
      clear hb hE5
      go_wp2_with fail
      refine hK.out _ _ hS5 (fun hHeld2 => ?_)
      clear hK K hHeld
      have hHeld := hHeld2
      clear hHeld2
      try simp only [Act.put, List.setIfInBounds_toArray, List.set_cons_zero, List.set_cons_succ]
      refine wpAnyH_ready (rs := [16]) (by as_aux_lemma => kernel_rfl) (List.cons_ne_nil _ _) ?_
      refine AllReadyH.cons (o := { dst := some 97, op := Go.Op.call { callee := Go.Callee.value (Go.Operand.func 27), args := #[Go.Operand.tmp 92, Go.Operand.tmp 96], argTypes := #[32, 32] }, type := 4, pos := "outright.go:122", after := #[{ on := 11, ground := Go.Ground.data }, { on := 15, ground := Go.Ground.data }, { on := 15, ground := Go.Ground.chain }, { on := 10, ground := Go.Ground.guard }], guard := some (10, true) }) rfl (fun K hK => ?_) AllReadyH.nil
      go_simp
      refine (same_true t hoE hEx (.slice A3 k3 c3) (.slice A5 k5 c5) _ HEg.out HE5.out (HG.out.up HI5.out.bel).e.s).mono ?_
      rintro e w6 ⟨rfl, hb⟩
      have HI6 := Lib.hid (HI5.out.bl hb)
      have hS6 := Lib.hid (bx_up hHeld.out hb)
      clear hb
      go_wp2_with fail
      refine hK.out _ _ hS6 (fun hHeld2 => ?_)
      clear hK K hHeld
      have hHeld := hHeld2
      clear hHeld2
      try simp only [Act.put, List.setIfInBounds_toArray, List.set_cons_zero, List.set_cons_succ]
      refine wpAnyH_take (i := 17) (oi := { dst := some 98, op := Go.Op.pick (Go.Operand.tmp 91) (Go.Operand.tmp 97) (Go.Operand.const (Go.Value.bool false)), type := 4, pos := "outright.go:122", after := #[{ on := 10, ground := Go.Ground.data }, { on := 16, ground := Go.Ground.data }], guard := none }) (v := ?_) rfl (by as_aux_lemma => kernel_rfl) (by as_aux_lemma => kernel_rfl) (by as_aux_lemma => kernel_rfl) (fun _ _ _ h => h) (Or.inl ⟨by rfl, ?_⟩) hHeld ?_
      rotate_left
      · (intro w hSw; (try dsimp only at hSw); go_simp; try with_reducible rfl)
      try simp only [Act.put, List.setIfInBounds_toArray, List.set_cons_zero, List.set_cons_succ]
      refine wpAnyH_take (i := 18) (oi := { dst := some 99, op := Go.Op.move (Go.Operand.tmp 98), type := 4, pos := "outright.go:122", after := #[{ on := 17, ground := Go.Ground.data }, { on := 16, ground := Go.Ground.chain }], guard := none }) (v := ?_) rfl (by as_aux_lemma => kernel_rfl) (by as_aux_lemma => kernel_rfl) (by as_aux_lemma => kernel_rfl) (fun _ _ _ h => h) (Or.inl ⟨by rfl, ?_⟩) hHeld ?_
      rotate_left
      · (intro w hSw; (try dsimp only at hSw); go_simp; try with_reducible rfl)
      try simp only [Act.put, List.setIfInBounds_toArray, List.set_cons_zero, List.set_cons_succ]
      refine wpAnyH_ready (rs := [19]) (by as_aux_lemma => kernel_rfl) (List.cons_ne_nil _ _) ?_
      refine AllReadyH.cons (o := { dst := some 100, op := Go.Op.call { callee := Go.Callee.value (Go.Operand.func 15), args := #[], argTypes := #[] }, type := 4, pos := "outright.go:122", after := #[{ on := 18, ground := Go.Ground.chain }, { on := 18, ground := Go.Ground.guard }], guard := some (18, true) }) rfl (fun K hK => ?_) AllReadyH.nil
      go_simp
      refine (HWk.out _ (HG.out.up HI6.out.bel)).mono ?_
      rintro e w7 ⟨rfl, hb⟩
      have HI7 := Lib.hid (HI6.out.bl hb)
      have hS7 := Lib.hid (bx_up hHeld.out hb)
      clear hb
      go_wp2_with fail
      refine hK.out _ _ hS7 (fun hHeld2 => ?_)
      clear hK K hHeld
      have hHeld := hHeld2
      clear hHeld2
      try simp only [Act.put, List.setIfInBounds_toArray, List.set_cons_zero, List.set_cons_succ]
      refine wpAnyH_take (i := 20) (oi := { dst := some 101, op := Go.Op.pick (Go.Operand.tmp 99) (Go.Operand.tmp 100) (Go.Operand.const (Go.Value.bool false)), type := 4, pos := "outright.go:122", after := #[{ on := 18, ground := Go.Ground.data }, { on := 19, ground := Go.Ground.data }], guard := none }) (v := ?_) rfl (by as_aux_lemma => kernel_rfl) (by as_aux_lemma => kernel_rfl) (by as_aux_lemma => kernel_rfl) (fun _ _ _ h => h) (Or.inl ⟨by rfl, ?_⟩) hHeld ?_
      rotate_left
      · (intro w hSw; (try dsimp only at hSw); go_simp; try with_reducible rfl)
      try simp only [Act.put, List.setIfInBounds_toArray, List.set_cons_zero, List.set_cons_succ]
      refine wpAnyH_ready (rs := [21]) (by as_aux_lemma => kernel_rfl) (List.cons_ne_nil _ _) ?_
      refine AllReadyH.cons (o := { dst := some 2, op := Go.Op.assign (Go.Operand.tmp 101), type := 4, pos := "outright.go:122", after := #[{ on := 20, ground := Go.Ground.data }, { on := 19, ground := Go.Ground.chain }, { on := 0, ground := Go.Ground.phase }, { on := 1, ground := Go.Ground.phase }, { on := 2, ground := Go.Ground.phase }, { on := 3, ground := Go.Ground.phase }, { on := 4, ground := Go.Ground.phase }, { on := 5, ground := Go.Ground.phase }, { on := 6, ground := Go.Ground.phase }, { on := 7, ground := Go.Ground.phase }, { on := 8, ground := Go.Ground.phase }, { on := 9, ground := Go.Ground.phase }, { on := 10, ground := Go.Ground.phase }, { on := 11, ground := Go.Ground.phase }, { on := 12, ground := Go.Ground.phase }, { on := 13, ground := Go.Ground.phase }, { on := 14, ground := Go.Ground.phase }, { on := 15, ground := Go.Ground.phase }, { on := 16, ground := Go.Ground.phase }, { on := 17, ground := Go.Ground.phase }, { on := 18, ground := Go.Ground.phase }, { on := 19, ground := Go.Ground.phase }, { on := 20, ground := Go.Ground.phase }], guard := none }) rfl (fun K hK => ?_) AllReadyH.nil
      go_simp
      refine hK.out _ _ hHeld (fun _ => ?_)
      clear hK K
      try simp only [Act.put, List.setIfInBounds_toArray, List.set_cons_zero, List.set_cons_succ]
      refine wpAnyH_done (by kernel_rfl) ?_ _
      refine NoPanic.normal ?_
      go_wp2_with fail
      go_ret
      exact ⟨rfl, HI7.out.bel⟩
end Go.Proofs.YtoldhocdfkndbaaGreatDoor.E5
