/-
  cursor.Take of an expression, and of a list: contracts.
  cursor.Take of a list of expressions: contracts.
-/
import Derived.Test.YtipepljmfgjbpaaGreatDoorTBase
import Derived.Test.YtipepljmfgjbpaaGreatDoorTMath
import Derived.BigRegion
namespace Go.Proofs.YtipepljmfgjbpaaGreatDoor.E6
open Go Go.RowKit Go.Proofs.YtipepljmfgjbpaaGreatDoor Go.Proofs.YtipepljmfgjbpaaGreatDoor.E5

theorem cu_dr {w : World} {l : TL} {v : Value} {c i : Nat} (h : Cu w l v c i) : Cu w.drew l v c i := h.bel (Below.refl _ w).drew
theorem code_ne {c : Int} (h : c = 7 ∨ c = 8) : (c != 0) = true := by rcases h with rfl | rfl <;> rfl
theorem er_frc {w w' : World} {c n : Nat} {l : List Ex} {v : Value} (h : S3.ER w (Rn n w.heap.size) l v) (hb : c < n) (hf : FrC c w w') : S3.ER w' (Rn n w'.heap.size) l v :=
  h.keep (fun _ hx => ⟨hx.1, Nat.lt_of_lt_of_le hx.2 hf.size⟩) fun x i hx => World.cell?_of_block (w := w) (hf.block x hx.2 (by have := hx.1; omega))
theorem undrew {X w1 : World} (h : Below X.drew.heap.size X.drew w1) : Below X.heap.size X w1 := ⟨h.os, h.tape, h.output, h.size, h.block⟩
theorem takeE_fin1 {w w1 : World} {l : TL} {v : Value} {c i n : Nat} {e : Ex} {A : Option Addr} {k m : Nat} {o o' : Obj} (hcw : c < w.heap.size) (hB : Below (w.alloc o).drew.heap.size (w.alloc o).drew w1) (hC : Cu w1 l v c i) (hn : n ≤ l.length)
    (hE : S3.ER w1 (Rn (w.alloc o).drew.heap.size w1.heap.size) e.args (.slice A k m)) (a0 a1 a2 a3 a4 : Value) :
    S3.ER ((put5 (w1.setCell ⟨c, 1, none⟩ (.int .i64 (n : Int))) w.heap.size a0 a1 a2 a3 a4).alloc o') (Rn w.heap.size ((put5 (w1.setCell ⟨c, 1, none⟩ (.int .i64 (n : Int))) w.heap.size a0 a1 a2 a3 a4).alloc o').heap.size) e.args (.slice A k m) ∧
    Cu ((put5 (w1.setCell ⟨c, 1, none⟩ (.int .i64 (n : Int))) w.heap.size a0 a1 a2 a3 a4).alloc o') l v c n ∧ FrC c w ((put5 (w1.setCell ⟨c, 1, none⟩ (.int .i64 (n : Int))) w.heap.size a0 a1 a2 a3 a4).alloc o') := by
  have hB := undrew hB
  have hz : (w.alloc o).drew.heap.size = w.heap.size + 1 := S3.sz1 w o
  rw [hz] at hE
  have hb2 := after (S3.bal w o) hB
  have e1 := er_frc hE (Nat.lt_succ_of_lt hcw) ((FrC.refl c w1).set 1 (.int .i64 (n : Int)))
  refine ⟨er_mono (er_bel (put5_er e1 (Nat.lt_succ_self _) a0 a1 a2 a3 a4) (S3.bal _ o')) (Nat.le_succ _) (Nat.le_refl _), (put5_cu (hC.set1 n hn) hcw a0 a1 a2 a3 a4).al o', (put5_frc ((FrC.of hb2).set 1 _) (Nat.le_refl _) a0 a1 a2 a3 a4).al o'⟩
theorem takeE_fin2 {w w1 : World} {l : TL} {v : Value} {c i n : Nat} {e : Ex} {A : Option Addr} {k m : Nat} {o o' : Obj} (hcw : c < w.heap.size) (hB : Below ((w.alloc o).alloc o').drew.heap.size ((w.alloc o).alloc o').drew w1) (hC : Cu w1 l v c i) (hn : n ≤ l.length)
    (hE : S3.ER w1 (Rn ((w.alloc o).alloc o').drew.heap.size w1.heap.size) e.args (.slice A k m)) (a0 a1 a2 a3 a4 : Value) :
    S3.ER (put5 ((put5 w1 (w.heap.size + 1) a0 a1 a2 a3 a4).setCell ⟨c, 1, none⟩ (.int .i64 (n : Int))) w.heap.size a0 a1 a2 a3 a4) (Rn w.heap.size (put5 ((put5 w1 (w.heap.size + 1) a0 a1 a2 a3 a4).setCell ⟨c, 1, none⟩ (.int .i64 (n : Int))) w.heap.size a0 a1 a2 a3 a4).heap.size) e.args (.slice A k m) ∧
    Cu (put5 ((put5 w1 (w.heap.size + 1) a0 a1 a2 a3 a4).setCell ⟨c, 1, none⟩ (.int .i64 (n : Int))) w.heap.size a0 a1 a2 a3 a4) l v c n ∧ FrC c w (put5 ((put5 w1 (w.heap.size + 1) a0 a1 a2 a3 a4).setCell ⟨c, 1, none⟩ (.int .i64 (n : Int))) w.heap.size a0 a1 a2 a3 a4) := by
  have hB := undrew hB
  have hz : ((w.alloc o).alloc o').drew.heap.size = w.heap.size + 1 + 1 := by show ((w.alloc o).alloc o').heap.size = _; rw [S3.sz1, S3.sz1]
  rw [hz] at hE
  have hb2 := after ((S3.bal w o).alloc (by rw [S3.sz1]; omega) o') hB
  have e1 := put5_er hE (q := w.heap.size + 1) (by omega) a0 a1 a2 a3 a4
  have e2 := er_frc e1 (by omega) ((FrC.refl c _).set 1 (.int .i64 (n : Int)))
  have e3 := put5_er e2 (q := w.heap.size) (by omega) a0 a1 a2 a3 a4
  exact ⟨er_mono e3 (by omega) (Nat.le_refl _), put5_cu ((put5_cu hC (by omega) a0 a1 a2 a3 a4).set1 n hn) hcw a0 a1 a2 a3 a4, put5_frc ((put5_frc (FrC.of hb2) (by omega) a0 a1 a2 a3 a4).set 1 _) (Nat.le_refl _) a0 a1 a2 a3 a4⟩
set_option maxRecDepth 100000 in
set_option maxHeartbeats 8000000 in
theorem takeE_bad {w : World} {l : TL} {v : Value} {c i : Nat} (h : Cu w l v c i) (j : Nat) (k : Int) (hr : parseR l i 0 = .bad j k) :
    Calls Tryz.prog 69 #[cpt c, .func (.func 70) #[] #[], .int .i64 0] w (PostC w l v c (.bad j k)) := by
  have hk := code_ne (parse_code hr)
  have P := Lib.hid (fun W (hW : Cu W l v c i) => (by have := parse_calls (d := 0) (hW.tok.keep (Nat.le_of_lt hW.lt) (fun _ _ _ => rfl)) hW.g hW.hi (by omega); rw [hr] at this; exact this : Calls Tryz.prog 70 #[v, .int .i64 (i : Int), .int .i64 0] W (PostP W (.bad j k))))
  have H := Lib.hid (fun o => h.al o)
  obtain ⟨c0, c1, f1⟩ := h.cells
  have hcw := h.lt
  have Q := Lib.hid (R5.new w (.int .i64 0) (.int .i64 0) (.int .i64 0) (.string ⟨#[]⟩) (.slice none 0 0))
  have Q2 := Lib.hid (by have := R5.new (w.alloc (.cells #[.int .i64 0, .int .i64 0, .int .i64 0, .string ⟨#[]⟩, .slice none 0 0] 67)) (.int .i64 0) (.int .i64 0) (.int .i64 0) (.string ⟨#[]⟩) (.slice none 0 0); rw [S3.sz1] at this; exact this : R5 ((w.alloc (.cells #[.int .i64 0, .int .i64 0, .int .i64 0, .string ⟨#[]⟩, .slice none 0 0] 67)).alloc (.cells #[.int .i64 0, .int .i64 0, .int .i64 0, .string ⟨#[]⟩, .slice none 0 0] 67)) (w.heap.size + 1))
  clear h hr
  go_enter Tryz.func69, Tryz.ntmps69
  go_wp2_with fail
  go_region_with (first
    | (go_at_call 70; refine (P.out _ (by exact cu_dr (H.out _))).mono ?_; rintro e w1 ⟨rfl, hb1⟩; have HB1 := Lib.hid hb1; have HC := Lib.hid (Cu.bel (cu_dr (H.out _)) hb1); have Q1 := Lib.hid (Q.out.bel (undrew hb1)); obtain ⟨d0, d1, g1⟩ := HC.out.cells; have hcw1 := HC.out.lt; have hqw := Q1.out.lt; obtain ⟨z0, z1, z2, z3, z4, r0, r1, r2, r3, r4, y0, y1, y2, y3, y4⟩ := Q1.out.facts; clear hb1)
    | (go_at_call 70; refine (P.out _ (by exact cu_dr ((H.out _).al _))).mono ?_; rintro e w1 ⟨rfl, hb1⟩; have HB1 := Lib.hid hb1; have HC := Lib.hid (Cu.bel (cu_dr ((H.out _).al _)) hb1); have Q1 := Lib.hid ((Q.out.bel (S3.bal _ _)).bel (undrew hb1)); have Q3 := Lib.hid (Q2.out.bel (undrew hb1)); have hqw3 := Q3.out.lt; obtain ⟨x0, x1, x2, x3, x4, s0, s1, s2, s3, s4, t0, t1, t2, t3, t4⟩ := Q3.out.facts; obtain ⟨d0, d1, g1⟩ := HC.out.cells; have hcw1 := HC.out.lt; have hqw := Q1.out.lt; obtain ⟨z0, z1, z2, z3, z4, r0, r1, r2, r3, r4, y0, y1, y2, y3, y4⟩ := Q1.out.facts; clear hb1))
  all_goals (go_wp2_with fail; refine (failc c j k _).mono ?_; rintro e w2 ⟨rfl, rfl⟩; go_wp2_with fail; refine ⟨rfl, rfl, ?_⟩)
  all_goals (first
    | exact (FrC.of (after (S3.bal w _) (undrew HB1.out))).al _
    | exact put5_frc (FrC.of (after ((S3.bal w _).alloc (by rw [S3.sz1]; omega) _) (undrew HB1.out))) (by omega) _ _ _ _ _)
set_option maxRecDepth 100000 in
set_option maxHeartbeats 8000000 in
theorem takeE_ok {w : World} {l : TL} {v : Value} {c i : Nat} (h : Cu w l v c i) (e : Ex) (n : Nat) (hr : parseR l i 0 = .ok e n) :
    Calls Tryz.prog 69 #[cpt c, .func (.func 70) #[] #[], .int .i64 0] w (PostC w l v c (.ok e n)) := by
  have hn := parseR_within l i 0 h.hi
  rw [hr] at hn
  simp only [Res.within] at hn
  have P := Lib.hid (fun W (hW : Cu W l v c i) => (by have := parse_calls (d := 0) (hW.tok.keep (Nat.le_of_lt hW.lt) (fun _ _ _ => rfl)) hW.g hW.hi (by omega); rw [hr] at this; exact this : Calls Tryz.prog 70 #[v, .int .i64 (i : Int), .int .i64 0] W (PostP W (.ok e n))))
  have H := Lib.hid (fun o => h.al o)
  obtain ⟨c0, c1, f1⟩ := h.cells
  have hcw := h.lt
  have Q := Lib.hid (R5.new w (.int .i64 0) (.int .i64 0) (.int .i64 0) (.string ⟨#[]⟩) (.slice none 0 0))
  have Q2 := Lib.hid (by have := R5.new (w.alloc (.cells #[.int .i64 0, .int .i64 0, .int .i64 0, .string ⟨#[]⟩, .slice none 0 0] 67)) (.int .i64 0) (.int .i64 0) (.int .i64 0) (.string ⟨#[]⟩) (.slice none 0 0); rw [S3.sz1] at this; exact this : R5 ((w.alloc (.cells #[.int .i64 0, .int .i64 0, .int .i64 0, .string ⟨#[]⟩, .slice none 0 0] 67)).alloc (.cells #[.int .i64 0, .int .i64 0, .int .i64 0, .string ⟨#[]⟩, .slice none 0 0] 67)) (w.heap.size + 1))
  clear h hr
  go_enter Tryz.func69, Tryz.ntmps69
  go_wp2_with fail
  go_region_with (first
    | (go_at_call 70; refine (P.out _ (by exact cu_dr (H.out _))).mono ?_; rintro e w1 ⟨A, q, m, rfl, ho, hE, hb1⟩; have HB1 := Lib.hid hb1; have HC := Lib.hid (Cu.bel (cu_dr (H.out _)) hb1); have Q1 := Lib.hid (Q.out.bel (undrew hb1)); obtain ⟨d0, d1, g1⟩ := HC.out.cells; have hcw1 := HC.out.lt; have hqw := Q1.out.lt; obtain ⟨z0, z1, z2, z3, z4, r0, r1, r2, r3, r4, y0, y1, y2, y3, y4⟩ := Q1.out.facts; have HE := Lib.hid hE; have HO := Lib.hid ho; clear hE ho; clear hb1)
    | (go_at_call 70; refine (P.out _ (by exact cu_dr ((H.out _).al _))).mono ?_; rintro e w1 ⟨A, q, m, rfl, ho, hE, hb1⟩; have HB1 := Lib.hid hb1; have HC := Lib.hid (Cu.bel (cu_dr ((H.out _).al _)) hb1); have Q1 := Lib.hid ((Q.out.bel (S3.bal _ _)).bel (undrew hb1)); have Q3 := Lib.hid (Q2.out.bel (undrew hb1)); have hqw3 := Q3.out.lt; obtain ⟨x0, x1, x2, x3, x4, s0, s1, s2, s3, s4, t0, t1, t2, t3, t4⟩ := Q3.out.facts; obtain ⟨d0, d1, g1⟩ := HC.out.cells; have hcw1 := HC.out.lt; have hqw := Q1.out.lt; obtain ⟨z0, z1, z2, z3, z4, r0, r1, r2, r3, r4, y0, y1, y2, y3, y4⟩ := Q1.out.facts; have HE := Lib.hid hE; have HO := Lib.hid ho; clear hE ho; clear hb1))
  all_goals go_wp2_with fail
  all_goals refine bodyPost_ret (v := S3.eV e (.slice A q m)) (by simp [results, Tryz.results69, go_sem, r0, r1, r2, r3, r4, hqw]) rfl ⟨A, q, m, rfl, HO.out, ?_⟩
  all_goals (first
    | exact takeE_fin1 hcw HB1.out HC.out hn.2 HE.out _ _ _ _ _
    | exact takeE_fin2 hcw HB1.out HC.out hn.2 HE.out _ _ _ _ _)
end Go.Proofs.YtipepljmfgjbpaaGreatDoor.E6

namespace Go.Proofs.YtipepljmfgjbpaaGreatDoor.E6
open Go Go.RowKit Go.Proofs.YtipepljmfgjbpaaGreatDoor Go.Proofs.YtipepljmfgjbpaaGreatDoor.E5

set_option maxRecDepth 100000 in
set_option maxHeartbeats 4000000 in
theorem takeL_bad {w : World} {l : TL} {v : Value} {c i : Nat} (h : Cu w l v c i) (hll : l.length ≤ 1000000) (j : Nat) (k : Int) (hr : listR l i 0 = .bad j k) :
    Calls Tryz.prog 64 #[cpt c, .func (.func 65) #[] #[], .int .i64 0] w (PostCL w l v c (.bad j k)) := by
  have hk := code_ne (list_code hr)
  have P := Lib.hid (fun W (hW : Cu W l v c i) => (by have := list_calls (d := 0) (hW.tok.keep (Nat.le_of_lt hW.lt) (fun _ _ _ => rfl)) hW.g hW.hi (by omega) hll; rw [hr] at this; exact this : Calls Tryz.prog 65 #[v, .int .i64 (i : Int), .int .i64 0] W (PostPL W (.bad j k))))
  have H := Lib.hid h
  obtain ⟨c0, c1, f1⟩ := h.cells
  have hcw := h.lt
  clear h hr
  go_enter Tryz.func64, Tryz.ntmps64
  go_wp2_with fail
  go_region_with (first
    | (go_at_call 65; refine (P.out _ (by exact (cu_dr H.out))).mono ?_; rintro e w1 ⟨rfl, hb1⟩; have HB1 := Lib.hid (after (Below.refl _ w).drew hb1); clear hb1))
  all_goals (go_wp2_with fail; refine (failc c j k _).mono ?_; rintro e w2 ⟨rfl, rfl⟩; go_wp2_with fail; exact ⟨rfl, rfl, FrC.of HB1.out⟩)
set_option maxRecDepth 100000 in
set_option maxHeartbeats 4000000 in
theorem takeL_ok {w : World} {l : TL} {v : Value} {c i : Nat} (h : Cu w l v c i) (hll : l.length ≤ 1000000) (es : List Ex) (n : Nat) (hr : listR l i 0 = .ok es n) :
    Calls Tryz.prog 64 #[cpt c, .func (.func 65) #[] #[], .int .i64 0] w (PostCL w l v c (.ok es n)) := by
  have hn := listR_within l i 0 h.hi
  rw [hr] at hn
  simp only [ResL.within] at hn
  have P := Lib.hid (fun W (hW : Cu W l v c i) => (by have := list_calls (d := 0) (hW.tok.keep (Nat.le_of_lt hW.lt) (fun _ _ _ => rfl)) hW.g hW.hi (by omega) hll; rw [hr] at this; exact this : Calls Tryz.prog 65 #[v, .int .i64 (i : Int), .int .i64 0] W (PostPL W (.ok es n))))
  have H := Lib.hid h
  obtain ⟨c0, c1, f1⟩ := h.cells
  have hcw := h.lt
  clear h hr
  go_enter Tryz.func64, Tryz.ntmps64
  go_wp2_with fail
  go_region_with (first
    | (go_at_call 65; refine (P.out _ (by exact (cu_dr H.out))).mono ?_; rintro e w1 ⟨A, m, rfl, hE, hb1⟩; have HB1 := Lib.hid (after (Below.refl _ w).drew hb1); have HE := Lib.hid hE; have HC := Lib.hid ((cu_dr H.out).bel hb1); obtain ⟨d0, d1, g1⟩ := HC.out.cells; clear hE; clear hb1))
  all_goals (go_wp2_with fail; go_ret; exact ⟨A, m, rfl, er_frc (w := w1) HE.out hcw ((FrC.refl c _).set _ _), HC.out.set1 n hn.2, (FrC.of HB1.out).set _ _⟩)
end Go.Proofs.YtipepljmfgjbpaaGreatDoor.E6
