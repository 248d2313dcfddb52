/-
  A draft's source: stmt, calls: contract.
  A draft's source: stmt and block: contracts.
-/
import Derived.Test.YthiilnhiihfknaaDoorSSrcT
import Derived.Deep.RegionWith
import Derived.BigRegion
namespace Go.Proofs.YthiilnhiihfknaaDoor
open Go Go.RowKit

theorem SrcAt.same {w w' : World} {S M : Nat} {l : Bytes} {s : Sr} (h : SrcAt w S M l s) (e : w'.heap = w.heap) : SrcAt w' S M l s := h.low (by rw [e]; exact Nat.le_refl _) fun b _ => by rw [e]
theorem SrcAt.dr {w : World} {S M : Nat} {l : Bytes} {s : Sr} (h : SrcAt w S M l s) : SrcAt w.drew S M l s := h.same rfl
theorem SrcAt.ad {w : World} {S M : Nat} {l : Bytes} {s : Sr} (h : SrcAt w S M l s) (o : Obj) : SrcAt (w.alloc o).drew S M l s := (h.bel (bal w o)).same rfl
theorem Fr.undr {N S : Nat} {w w' : World} (h : Fr N S w.drew w') : Fr N S w w' := ⟨h.os, h.tape, h.output, h.size, h.block⟩
abbrev calO (T : TypeId) : Obj := .cells #[.string ⟨#[109, 97, 105, 110]⟩, .string ⟨#[102]⟩, .string ⟨#[103]⟩] T
theorem arr_keep {S i : Nat} {c : Bytes} {X w' : World} {T : TypeId} (hf : Fr S S (X.alloc (calO T)) w') (hS : S < X.heap.size) (HC : ∀ (X : World) (T : TypeId), (X.alloc (calO T)).cell? ⟨X.heap.size, i, none⟩ = some (.string (B c))) :
    w'.cell? ⟨X.heap.size, i, none⟩ = some (.string (B c)) := (hf.cell (b := X.heap.size) (i := i) (by simp) (by omega) (by omega)).trans (HC X T)
theorem arr_next {S b i : Nat} {v : Value} {w w' : World} (hq : w.cell? ⟨b, i, none⟩ = some v) (hf : Fr S S w w') (hb : b ≠ S) : w'.cell? ⟨b, i, none⟩ = some v := (hf.cell (World.block_lt_of_cell? _ _ hq) hb hb).trans hq
set_option maxRecDepth 100000 in
set_option maxHeartbeats 4000000 in
theorem st_k7 (S M : Nat) (l : Bytes) (h : Nat) (H : Int) (s : Sr) (w : World) (hH : H = (h : Int) + 1) (hh : h ≤ 2) (hs : SrcAt w S M l s) (hk : nextD l 10 s.pos = 6) :
    Calls Tryd.prog 101 #[.pointer (some ⟨S, 0, none⟩), .int .i64 H] w (StR w S M l (stD l (blockD l h) s)) := by
  have HS := Lib.hid hs
  have HK := Lib.hid hk
  have hH1 : 1 ≤ H := by omega
  have hH3 : H ≤ 3 := by omega
  have hsl := hs.slt
  have hM := hs.le
  have hx : stD l (blockD l h) s = (if nextD l 2 (exprsD l (nextD l 3 (stepD l (stepD l s.pos))) (stepD l (stepD l (stepD l s.pos)))).2 = 1 then
      (⟨7, 0, nameD l (stepD l (exprsD l (nextD l 3 (stepD l (stepD l s.pos))) (stepD l (stepD l (stepD l s.pos)))).2), 0, calD.getD (nextD l 3 (stepD l s.pos)) [], (exprsD l (nextD l 3 (stepD l (stepD l s.pos))) (stepD l (stepD l (stepD l s.pos)))).1, [], []⟩, ⟨stepD l (stepD l (exprsD l (nextD l 3 (stepD l (stepD l s.pos))) (stepD l (stepD l (stepD l s.pos)))).2), s.left⟩)
    else (⟨7, 0, [], 0, calD.getD (nextD l 3 (stepD l s.pos)) [], (exprsD l (nextD l 3 (stepD l (stepD l s.pos))) (stepD l (stepD l (stepD l s.pos)))).1, [], []⟩, ⟨stepD l (exprsD l (nextD l 3 (stepD l (stepD l s.pos))) (stepD l (stepD l (stepD l s.pos)))).2, s.left⟩)) := by
    unfold stD; simp only [hk]; rfl
  have HX := Lib.hid hx
  have hcl := calD_len (nextD_lt l (n := 3) (stepD l s.pos) (by omega))
  clear hs hk hH hx
  go_enter Tryd.func101, Tryd.ntmps101
  go_wp2_with fail
  refine (next_calls S M l s 10 (by omega) (by omega) _ (HS.out.bel (bal _ _))).mono ?_
  rintro e w1 ⟨rfl, hf1, hs1⟩
  rw [HK.out]
  have hz1 : w.heap.size < w1.heap.size := by have := hf1.size; simp at this; omega
  have HA1 := Lib.hid (show At w S M l w1.heap.size ⟨stepD l s.pos, s.left⟩ ⟨7, 0, [], 0, [], [], [], []⟩ (.slice none 0 0) (.slice none 0 0) (.slice none 0 0) (w1.alloc (sO ⟨7, 0, [], 0, [], [], [], []⟩ (.slice none 0 0) (.slice none 0 0) (.slice none 0 0))) from
    ⟨((Fr.of (N := S) (S := S) (bal w _)).trans hf1).trans (Fr.of (bal _ _)), hs1.bel (bal _ _), ((BX.new w ⟨0, 0, [], 0, [], [], [], []⟩ (.slice none 0 0) (.slice none 0 0) (.slice none 0 0)).fr hf1 (by omega) (by omega)).bel (bal _ _) hz1, BX.new _ _ _ _ _, hz1, by simp⟩)
  have hW1 : S ≤ w1.heap.size := by omega
  have k0 := HA1.out.x.at_.c0
  clear hf1 hs1
  go_wp2_with fail
  have hi := nextD_lt l (n := 3) (stepD l s.pos) (by omega)
  have hn := nextD_lt l (n := 3) (stepD l (stepD l s.pos)) (by omega)
  have HC := Lib.hid (fun (X : World) (T : TypeId) => show (X.alloc (calO T)).cell? ⟨X.heap.size, nextD l 3 (stepD l s.pos), none⟩ = some (.string (B (calD.getD (nextD l 3 (stepD l s.pos)) []))) by
    refine newCell X _ T _ _ ?_
    generalize nextD l 3 (stepD l s.pos) = i at *
    match i, hi with
    | 0, _ => rfl
    | 1, _ => rfl
    | 2, _ => rfl)
  have hlit : ∀ h : nextD l 3 (stepD l s.pos) < ([.string ⟨#[109, 97, 105, 110]⟩, .string ⟨#[102]⟩, .string ⟨#[103]⟩] : List Value).length, ([.string ⟨#[109, 97, 105, 110]⟩, .string ⟨#[102]⟩, .string ⟨#[103]⟩] : List Value)[nextD l 3 (stepD l s.pos)]'h = .string (B (calD.getD (nextD l 3 (stepD l s.pos)) [])) := by
    generalize nextD l 3 (stepD l s.pos) = i at *
    match i, hi with
    | 0, _ => intro _; rfl
    | 1, _ => intro _; rfl
    | 2, _ => intro _; rfl
  have C2 := Lib.hid (fun W (h : SrcAt W S M l ⟨stepD l s.pos, s.left⟩) => show Calls Tryd.prog 66 #[.pointer (some ⟨S, 0, none⟩), .int .i64 3] W (NextR W S M l (.int .i64 (nextD l 3 (stepD l s.pos) : Nat)) ⟨stepD l (stepD l s.pos), s.left⟩) from next_calls S M l ⟨stepD l s.pos, s.left⟩ 3 (by omega) (by omega) W h)
  have C3 := Lib.hid (fun W (h : SrcAt W S M l ⟨stepD l (stepD l s.pos), s.left⟩) => show Calls Tryd.prog 66 #[.pointer (some ⟨S, 0, none⟩), .int .i64 3] W (NextR W S M l (.int .i64 (nextD l 3 (stepD l (stepD l s.pos)) : Nat)) ⟨stepD l (stepD l (stepD l s.pos)), s.left⟩) from next_calls S M l ⟨stepD l (stepD l s.pos), s.left⟩ 3 (by omega) (by omega) W h)
  have C4 := Lib.hid (fun W (h : SrcAt W S M l ⟨stepD l (stepD l (stepD l s.pos)), s.left⟩) => show Calls Tryd.prog 107 #[.pointer (some ⟨S, 0, none⟩), .int .i64 (nextD l 3 (stepD l (stepD l s.pos)) : Nat)] W (ExsR W S M l (exprsD l (nextD l 3 (stepD l (stepD l s.pos))) (stepD l (stepD l (stepD l s.pos)))) s.left) from exprsD_calls S M l _ (by omega) ⟨stepD l (stepD l (stepD l s.pos)), s.left⟩ W h)
  generalize calD.getD (nextD l 3 (stepD l s.pos)) [] = c at *
  have hxl := exprsD_len l (nextD l 3 (stepD l (stepD l s.pos))) (stepD l (stepD l (stepD l s.pos)))
  generalize exprsD l (nextD l 3 (stepD l (stepD l s.pos))) (stepD l (stepD l (stepD l s.pos))) = xs at *
  have Hxl := Lib.hid hxl
  clear hxl
  generalize nextD l 3 (stepD l (stepD l s.pos)) = n at *
  generalize nextD l 3 (stepD l s.pos) = i at *
  generalize stepD l (stepD l (stepD l s.pos)) = p3 at *
  generalize stepD l (stepD l s.pos) = p2 at *
  generalize stepD l s.pos = p1 at *
  have hi1 : (0 : Int) ≤ (i : Int) := by omega
  have hi2 : (i : Int) < 3 := by omega
  have hWa : w1.heap.size < (w1.alloc (sO ⟨7, 0, [], 0, [], [], [], []⟩ (.slice none 0 0) (.slice none 0 0) (.slice none 0 0))).heap.size := by simp
  generalize (w1.alloc (sO ⟨7, 0, [], 0, [], [], [], []⟩ (.slice none 0 0) (.slice none 0 0) (.slice none 0 0))) = wa at *
  have hSa : S < wa.heap.size := by omega
  clear k0
  go_region_with (first | (go_at_call 66; refine (C2.out _ (by first | exact HA1.out.src.dr | exact HA1.out.src.ad _)).mono ?_; rintro e2 w2 ⟨rfl, hf2, hs2⟩; have hS2 := hs2.slt; have F2 : Fr S S wa w2 := (by first | exact hf2.undr | exact (Fr.of (bal _ _)).trans hf2.undr); try have q2 := arr_keep hf2.undr hSa HC.out) | (go_at_call 66; refine (C3.out _ (by first | exact hs2 | exact hs2.bel (bal _ _))).mono ?_; rintro e3 w3 ⟨rfl, hf3, hs3⟩; have hS3 := hs3.slt; have F3 : Fr S S w2 w3 := (by first | exact hf3 | exact (Fr.of (bal _ _)).trans hf3); (first | have q3 := arr_keep hf3 hS2 HC.out | have q3 := arr_next q2 hf3 (by omega) | skip)) | (go_at_call 107; refine (C4.out _ (by first | exact hs3 | exact hs3.bel (bal _ _))).mono ?_; rintro e4 w4 ⟨v4, rfl, hf4, hs4, he4⟩; obtain ⟨A4, c4, rfl⟩ := he4.slice; have F4 : Fr S S w3 w4 := (by first | exact hf4 | exact (Fr.of (bal _ _)).trans hf4); (first | have q4 := arr_keep hf4 hS3 HC.out | have q4 := arr_next q3 hf4 (by omega) | skip); have HA4 := ((HA1.out.go hsl F2 hs2).go hsl F3 hs3).go hsl F4 hs4; obtain ⟨k0, k1, k2, k3, k4, k5, k6, k7⟩ := HA4.x.at_; have fx := HA4.x.free; have hW4 := HA4.lt2) | (trace_state; fail))
  all_goals
    have hlt3 := ((HA1.out.go hsl F2 hs2).go hsl F3 hs3).lt2
    have PE4 := he4.keep (R' := Qn w1.heap.size w4) (fun b hb => ⟨by have h1 := hb.1; first | omega | (simp at h1; omega), hb.2⟩) fun _ _ _ => rfl
    have HB1 := Lib.hid (At.of (At.of HA4 hM (j := 4) (BX.set4 HA4.x c)) hM (j := 5) (BX.set5 (BX.set4 HA4.x c) (.slice A4 xs.1.length c4)))
    have HP1 := Lib.hid (Qn.set (Qn.set PE4 4 (.string (B c))) 5 (.slice A4 xs.1.length c4))
    have HB2 := Lib.hid (fun o => HB1.out.go hsl (Fr.of (bal _ o)) (HB1.out.src.bel (bal _ o)))
    have HP2 := Lib.hid (fun o => Qn.fr (S := S) HP1.out hW1 (Fr.of (bal _ o)))
    have hne1 : w.heap.size ≠ w1.heap.size := by omega
    have hne2 : w1.heap.size ≠ w.heap.size := by omega
    have h2 := nextD_lt l (n := 2) xs.2 (by omega)
    clear HA4 PE4 he4 hs4 hf4 F4 hf3 hs3 F3 hf2 hs2 F2 k0 k1 k2 k3 k4 k5 k6 k7 fx hlit hlt3
    go_wp2_with fail
    have C5 := fun W (h : SrcAt W S M l ⟨xs.2, s.left⟩) => show Calls Tryd.prog 66 #[.pointer (some ⟨S, 0, none⟩), .int .i64 2] W (NextR W S M l (.int .i64 (nextD l 2 xs.2 : Nat)) ⟨stepD l xs.2, s.left⟩) from next_calls S M l ⟨xs.2, s.left⟩ 2 (by omega) (by omega) W h
    refine (C5 _ (by first | exact HB1.out.src | exact (HB2.out _).src)).mono ?_
    rintro e5 w5 ⟨rfl, hf5, hs5⟩
    have HA5 : Hid (At w S M l w1.heap.size ⟨stepD l xs.2, s.left⟩ ⟨7, 0, [], 0, c, [], [], []⟩ (.slice A4 xs.1.length c4) (.slice none 0 0) (.slice none 0 0) w5) := by first | exact Lib.hid (HB1.out.go hsl hf5 hs5) | exact Lib.hid ((HB2.out _).go hsl hf5 hs5)
    have PE5 : Hid (ER w5 (Qn w1.heap.size w5) xs.1 (.slice A4 xs.1.length c4)) := by first | exact Lib.hid (Qn.fr HP1.out hW1 hf5) | exact Lib.hid (Qn.fr (HP2.out _) hW1 hf5)
    clear C5 hf5 hs5 HB1 HB2 HP1 HP2
    obtain h5 | h5 : nextD l 2 xs.2 = 0 ∨ nextD l 2 xs.2 = 1 := by omega
    · rw [h5]
      obtain ⟨k0, k1, k2, k3, k4, k5, k6, k7⟩ := HA5.out.x.at_
      obtain ⟨z0, z1, z2, z3, z4, z5, z6, z7⟩ := HA5.out.z.at_
      have fx := HA5.out.x.free
      have fz := HA5.out.z.free
      go_wp2_with fail
      obtain ⟨t0, t1, t2, t3, t4, t5, t6, t7⟩ := BX.at_ (BX.putT HA5.out.z ⟨7, 0, [], 0, c, xs.1, [], []⟩ (.slice A4 xs.1.length c4) (.slice none 0 0) (.slice none 0 0))
      simp only at t0 t1 t2 t3 t4 t5 t6 t7
      clear k0 k1 k2 k3 k4 k5 k6 k7 z0 z1 z2 z3 z4 z5 z6 z7 fx fz
      refine bodyPost_ret (v := sV ⟨7, 0, [], 0, c, xs.1, [], []⟩ (.slice A4 xs.1.length c4) (.slice none 0 0) (.slice none 0 0)) (by simp [results, Tryd.results101, go_sem, t0, t1, t2, t3, t4, t5, t6, t7]) rfl ?_
      rw [HX.out, if_neg (by omega)]
      exact st_fin hM HA5.out.fr HA5.out.src ⟨⟨by unfold okI; simp, by unfold okI; simp, by unfold okI; simp, by simp, by simp only; omega⟩, PE5.out.keep (fun b hb => ⟨by have := hb.1; omega, hb.2⟩) fun _ _ _ => rfl, SR.nil _ _, SR.nil _ _⟩
    · rw [h5]
      go_wp2_with fail
      refine (nmD_calls S M l ⟨stepD l xs.2, s.left⟩ _ HA5.out.src).mono ?_
      rintro e6 w6 ⟨rfl, hf6, hs6⟩
      have HA6 := Lib.hid (HA5.out.go hsl hf6 hs6)
      have PE6 := Lib.hid (Qn.fr PE5.out hW1 hf6)
      clear hf6 hs6
      obtain ⟨k0, k1, k2, k3, k4, k5, k6, k7⟩ := HA6.out.x.at_
      obtain ⟨z0, z1, z2, z3, z4, z5, z6, z7⟩ := HA6.out.z.at_
      have fx := HA6.out.x.free
      have fz := HA6.out.z.free
      have HA7 := Lib.hid (At.of HA6.out hM (j := 2) (BX.set2 HA6.out.x (nameD l (stepD l xs.2))))
      have PE7 := Lib.hid (Qn.set PE6.out 2 (.string (B (nameD l (stepD l xs.2)))))
      go_wp2_with fail
      obtain ⟨t0, t1, t2, t3, t4, t5, t6, t7⟩ := BX.at_ (BX.putT HA7.out.z ⟨7, 0, nameD l (stepD l xs.2), 0, c, xs.1, [], []⟩ (.slice A4 xs.1.length c4) (.slice none 0 0) (.slice none 0 0))
      simp only at t0 t1 t2 t3 t4 t5 t6 t7
      clear k0 k1 k2 k3 k4 k5 k6 k7 z0 z1 z2 z3 z4 z5 z6 z7 fx fz
      refine bodyPost_ret (v := sV ⟨7, 0, nameD l (stepD l xs.2), 0, c, xs.1, [], []⟩ (.slice A4 xs.1.length c4) (.slice none 0 0) (.slice none 0 0)) (by simp [results, Tryd.results101, go_sem, t0, t1, t2, t3, t4, t5, t6, t7]) rfl ?_
      rw [HX.out, if_pos h5]
      exact st_fin hM HA7.out.fr HA7.out.src ⟨⟨by unfold okI; simp, by unfold okI; simp, by unfold okI; simp, by have := nameD_len l (stepD l xs.2); simp only; omega, by simp only; omega⟩, PE7.out.keep (fun b hb => ⟨by have := hb.1; omega, hb.2⟩) fun _ _ _ => rfl, SR.nil _ _, SR.nil _ _⟩
end Go.Proofs.YthiilnhiihfknaaDoor

namespace Go.Proofs.YthiilnhiihfknaaDoor
open Go Go.RowKit

theorem stD_calls (S M : Nat) (l : Bytes) (h : Nat) (H : Int) (s : Sr) (w : World) (hH : H = (h : Int) + 1) (hh : h ≤ 2) (hs : SrcAt w S M l s)
    (ihb : ∀ (s : Sr) (w : World), SrcAt w S M l s → Calls Tryd.prog 90 #[.pointer (some ⟨S, 0, none⟩), .int .i64 (H - 1)] w (BlkR w S M l (blockD l h s))) :
    Calls Tryd.prog 101 #[.pointer (some ⟨S, 0, none⟩), .int .i64 H] w (StR w S M l (stD l (blockD l h) s)) := by
  have hk := nextD_lt l (n := 10) s.pos (by omega)
  obtain h0 | h0 | h0 | h0 | h0 | h0 | h0 | h0 | h0 | h0 : nextD l 10 s.pos = 0 ∨ nextD l 10 s.pos = 1 ∨ nextD l 10 s.pos = 2 ∨ nextD l 10 s.pos = 3 ∨ nextD l 10 s.pos = 4 ∨ nextD l 10 s.pos = 5 ∨ nextD l 10 s.pos = 6 ∨ nextD l 10 s.pos = 7 ∨ nextD l 10 s.pos = 8 ∨ nextD l 10 s.pos = 9 := by omega
  · exact st_k1 S M l h H s w hH hh hs h0
  · exact st_k2 S M l h H s w hH hh hs h0
  · exact st_k3 S M l h H s w hH hh hs h0
  · exact st_k4 S M l h H s w hH hh hs h0
  · exact st_k5 S M l h H s w hH hh hs h0
  · exact st_k6 S M l h H s w hH hh hs h0
  · exact st_k7 S M l h H s w hH hh hs h0
  · exact st_k8 S M l h H s w hH hh hs h0
  · exact st_k9 S M l h H s w hH hh hs h0 ihb
  · exact st_k10 S M l h H s w hH hh hs h0 ihb
def BlkI (w : World) (S M : Nat) (l : Bytes) (st : Sr → St × Sr) (s : Sr) (i : Nat) (v : Value) (wr : World) : Prop :=
  Fr S S w wr ∧ SrcAt wr S M l (loopD st i s).2 ∧ GrI kS w.heap.size (loopD st i s).1 v wr ∧ (loopD st i s).1.length = i ∧ (i = 0 → v = .slice none 0 0)
theorem BlkI.step {w wr w1 : World} {S M : Nat} {l : Bytes} {st : Sr → St × Sr} {s : Sr} {i : Nat} {v va vb ve : Value} (h : BlkI w S M l st s i v wr) (hM : M ≤ w.heap.size) (hS : S < w.heap.size) (h0 : (loopD st i s).2.left ≠ 0) (hf : Fr S S wr w1)
    (hs : SrcAt w1 S M l (st ⟨(loopD st i s).2.pos, (loopD st i s).2.left - 1⟩).2) (hn : New w1 (Rn wr.heap.size w1.heap.size) (st ⟨(loopD st i s).2.pos, (loopD st i s).2.left - 1⟩).1 va vb ve) :
    w.heap.size ≤ w1.heap.size ∧ ∃ xs, w1.ownsRow w.heap.size 46 8 v i xs ∧
    ∀ (o : Obj) g cap w8, w8.ownsRow w.heap.size 46 8 (.slice (some ⟨g, 0, none⟩) (i + 1) cap) (i + 1) (xs ++ sC (st ⟨(loopD st i s).2.pos, (loopD st i s).2.left - 1⟩).1 va vb ve) → (w1.alloc o).grownBy w8 v.ownBlock → (v.ownBlock = some g ∨ g = (w1.alloc o).heap.size) →
      BlkI w S M l st s (i + 1) (.slice (some ⟨g, 0, none⟩) (i + 1) cap) w8 := by
  obtain ⟨h1, h2, h3, h4, _⟩ := h
  have G1 := h3.fr hS hf
  have hp := h3.part (a := (st ⟨(loopD st i s).2.pos, (loopD st i s).2.left - 1⟩).1) (x := (va, vb, ve)) (w1 := w1) hn
  have hsz := h1.size
  have hsz1 := hf.size
  obtain ⟨xs, hown, hst⟩ := G1.own
  rw [h4] at hown hst
  refine ⟨by omega, xs, hown, fun o g cap w8 ho hg hat => ?_⟩
  obtain ⟨g1, g2⟩ := hst _ (va, vb, ve) o g cap w8 hp ho hg hat
  have hs8 : w1.heap.size ≤ w8.heap.size := by have := hg.size; simp at this; omega
  have e : loopD st (i + 1) s = ((loopD st i s).1 ++ [(st ⟨(loopD st i s).2.pos, (loopD st i s).2.left - 1⟩).1], (st ⟨(loopD st i s).2.pos, (loopD st i s).2.left - 1⟩).2) := by rw [loopD, if_neg h0]
  unfold BlkI
  rw [e]
  refine ⟨⟨g2.os.trans (hf.os.trans h1.os), g2.tape.trans (hf.tape.trans h1.tape), g2.output.trans (hf.output.trans h1.output), by omega, fun b hb hb1 hb2 => (g2.block b hb).trans ((hf.block b (by omega) hb1 hb2).trans (h1.block b hb hb1 hb2))⟩, hs.low hs8 fun b hb => g2.block b (by omega), g1, by simp [h4], fun h => by omega⟩

set_option maxRecDepth 100000 in
set_option maxHeartbeats 4000000 in
theorem blockD_calls (S M : Nat) (l : Bytes) (h : Nat) : ∀ (H : Int) (s : Sr) (w : World), H = (h : Int) → h ≤ 3 → SrcAt w S M l s →
    Calls Tryd.prog 90 #[.pointer (some ⟨S, 0, none⟩), .int .i64 H] w (BlkR w S M l (blockD l h s)) := by
  induction h with
  | zero =>
    intro H s w hH _ hs
    have hH0 : H = 0 := by omega
    subst hH0
    have HS := Lib.hid hs
    have C1 := next_calls S M l s 4 (by omega) (by omega) w hs
    have hn := nextD_lt l (n := 4) s.pos (by omega)
    have HX := Lib.hid (show blockD l 0 s = ([], ⟨stepD l s.pos, s.left⟩) from rfl)
    generalize nextD l 4 s.pos = n at *
    have HC := Lib.hid C1
    clear hs hH C1
    go_enter Tryd.func90, Tryd.ntmps90
    go_wp2_with fail
    refine HC.out.mono ?_
    rintro e w1 ⟨rfl, hf1, hs1⟩
    obtain ⟨A, c, c0, c1, c2, _, _, _⟩ := hs1.cells
    have HF1 := Lib.hid hf1
    have HS1 := Lib.hid hs1
    clear hf1 hs1 c0 c1
    by_cases h0 : n = 0
    · subst h0
      go_wp2_with fail
      refine wp_loop_rounds 1 ?_
      rw [rounds_succ]
      go_wp2_with fail
      go_ret
      rw [HX.out]
      exact ⟨_, rfl, HF1.out, HS1.out, GrI.start kS HF1.out.size (fun _ => (.bool false, .bool false, .bool false)), fun _ => rfl⟩
    · have h0' : 0 < n := by omega
      by_cases hl : s.left = 0
      · have g1 : ((s.left : Int) == 0) = true := by simp [hl]
        clear h0
        go_wp2_with fail
        refine wp_loop_rounds 1 ?_
        rw [rounds_succ]
        go_wp2_with fail
        go_ret
        rw [HX.out]
        exact ⟨_, rfl, HF1.out, HS1.out, GrI.start kS HF1.out.size (fun _ => (.bool false, .bool false, .bool false)), fun _ => rfl⟩
      · have g1 : ((s.left : Int) == 0) = false := by simp [hl]
        clear h0
        go_wp2_with fail
        refine wp_loop_rounds 1 ?_
        rw [rounds_succ]
        go_wp2_with fail
        go_ret
        rw [HX.out]
        exact ⟨_, rfl, HF1.out, HS1.out, GrI.start kS HF1.out.size (fun _ => (.bool false, .bool false, .bool false)), fun _ => rfl⟩
  | succ h ih =>
    intro H s w hH hh hs
    have IH := Lib.hid (fun (s : Sr) (w : World) (hs : SrcAt w S M l s) => stD_calls S M l h H s w (by omega) (by omega) hs (fun s w hs => ih (H - 1) s w (by omega) (by omega) hs))
    have hH1 : 1 ≤ H := by omega
    have hH3 : H ≤ 3 := by omega
    have hsl := hs.slt
    have hM := hs.le
    have HS := Lib.hid hs
    have C1 := next_calls S M l s 4 (by omega) (by omega) w hs
    have hn := nextD_lt l (n := 4) s.pos (by omega)
    have HX := Lib.hid (show blockD l (h + 1) s = loopD (stD l (blockD l h)) (nextD l 4 s.pos) ⟨stepD l s.pos, s.left⟩ from rfl)
    obtain ⟨i1, hi1, hy0, hy1, hy2⟩ := info_parts infoS
    have HI1 := Lib.hid hi1
    have HY0 := Lib.hid hy0
    have HY1 := Lib.hid hy1
    have HY2 := Lib.hid hy2
    generalize nextD l 4 s.pos = n at *
    generalize stD l (blockD l h) = st at *
    have HC := Lib.hid C1
    clear hs hH C1 ih hi1 hy0 hy1 hy2 hh
    go_enter Tryd.func90, Tryd.ntmps90
    go_wp2_with fail
    refine HC.out.mono ?_
    rintro e w1 ⟨rfl, hf1, hs1⟩
    have HI := Lib.hid (show BlkI w S M l st ⟨stepD l s.pos, s.left⟩ 0 (.slice none 0 0) w1 from ⟨hf1, hs1, GrI.start kS hf1.size (fun _ => (.bool false, .bool false, .bool false)), rfl, fun _ => rfl⟩)
    clear hf1 hs1
    go_wp2_with fail
    go_loopw [5, 8] (fun v c wr => ∃ i : Nat, i ≤ n ∧ c = .int .i64 i ∧ Hid (BlkI w S M l st ⟨stepD l s.pos, s.left⟩ i v wr)) (fun _ c _ => n - (intOf c).toNat)
    case atStart => exact ⟨0, by omega, rfl, HI⟩
    case round =>
      obtain ⟨i, hi, rfl, HJ⟩ := hrel
      obtain ⟨A, c, c0, c1, c2, f1, f2, _⟩ := HJ.out.2.1.cells
      have hL := HJ.out.2.1.left
      clear c0 c1 f1
      by_cases hlt : i < n
      · by_cases h0 : (loopD st i ⟨stepD l s.pos, s.left⟩).2.left = 0
        · have g1 : (((loopD st i ⟨stepD l s.pos, s.left⟩).2.left : Int) == 0) = true := by simp [h0]
          have HE := Lib.hid (show loopD st n ⟨stepD l s.pos, s.left⟩ = loopD st i ⟨stepD l s.pos, s.left⟩ by
            have := loopD_stop st i ⟨stepD l s.pos, s.left⟩ h0 (n - i)
            rwa [show i + (n - i) = n by omega] at this)
          have HP := Lib.hid (show BlkR w S M l (blockD l (h + 1) s) (.returned u5) wr by
            rw [HX.out, HE.out]
            exact ⟨_, rfl, HJ.out.1, HJ.out.2.1, HJ.out.2.2.1, fun h => HJ.out.2.2.2.2 (by rw [← HJ.out.2.2.2.1, h]; rfl)⟩)
          clear h0
          go_wp2_with fail
          go_ret
          exact HP.out
        · have g1 : (((loopD st i ⟨stepD l s.pos, s.left⟩).2.left : Int) == 0) = false := by simp [h0]
          have H0 := Lib.hid h0
          have hL1 : 1 ≤ (loopD st i ⟨stepD l s.pos, s.left⟩).2.left := by omega
          have hcs : (((loopD st i ⟨stepD l s.pos, s.left⟩).2.left - 1 : Nat) : Int) = ((loopD st i ⟨stepD l s.pos, s.left⟩).2.left : Int) - 1 := by omega
          have S3 := HJ.out.2.1.setLeft (p := (loopD st i ⟨stepD l s.pos, s.left⟩).2.left - 1) (by omega)
          have F3 : Fr S S wr (wr.setCell ⟨S, 2, none⟩ (.int .i64 (((loopD st i ⟨stepD l s.pos, s.left⟩).2.left - 1 : Nat) : Int))) := Fr.set (N := S) (S := S) (Fr.refl _ _ _) (p := ⟨S, 2, none⟩) (.inl rfl) _
          rw [hcs] at S3 F3
          have HS3 := Lib.hid S3
          have HF3 := Lib.hid F3
          have HST := Lib.hid (fun w1 va vb ve hf hs hn => HJ.out.step (w1 := w1) (va := va) (vb := vb) (ve := ve) hM hsl h0 hf hs hn)
          clear S3 F3 hcs h0
          go_wp2_with fail
          refine (IH.out _ _ HS3.out).mono ?_
          rintro e w2 ⟨va, vb, ve, rfl, hf2, hs2, hn2⟩
          obtain ⟨A5, c5, rfl⟩ := hn2.a.slice
          obtain ⟨A6, c6, rfl⟩ := hn2.b.slice
          obtain ⟨A7, c7, rfl⟩ := hn2.e.slice
          obtain ⟨hz2, xs, hown, hst⟩ := HST.out w2 _ _ _ (HF3.out.trans hf2) hs2 (by rw [size_set] at hn2; exact hn2)
          have HOW := Lib.hid hown
          have HSS := Lib.hid hst
          clear hown hst hf2 hs2 hn2 HST HS3 HF3 hL1 hL g1 c2 f2
          generalize (st ⟨(loopD st i ⟨stepD l s.pos, s.left⟩).2.pos, (loopD st i ⟨stepD l s.pos, s.left⟩).2.left - 1⟩).1 = x at *
          go_wp2_with (at_builtin; go_loud (refine wpList_append_lies _ rfl (.tmp 26) (.tmp 30) 41 rfl w.heap.size 46 i1 _ 8 128 Tryd.underlying41 HI1.out HY0.out HY1.out HY2.out rfl (by decide) u5 i xs rfl (HOW.out.alloc _) ⟨w2.heap.size, 0, none⟩ 1 1 (sC x (.slice A5 x.args.length c5) (.slice A6 x.body.length c6) (.slice A7 x.els.length c7)) rfl rfl (news_new _ _ _ _ rfl) (by intro u hu; simp [sC] at hu; rcases hu with rfl | rfl | rfl | rfl | rfl | rfl | rfl | rfl <;> rfl) (by decide) (by unfold maxLen; omega) (by omega) (by simp; omega) _ rfl ?_))
          intro g cap w8 hown8 hgr8 hat hlt8
          have HNI := Lib.hid (HSS.out _ g cap w8 hown8 hgr8 (by rcases hat with h | h; exact .inl h; exact .inr (by rw [h]; simp)))
          clear hown8 hgr8 hat hlt8
          go_wp2_with fail
          go_roundw
          case rel => exact ⟨i + 1, by omega, by go_num, HNI⟩
          case measure => simp [intOf]; omega
      · obtain rfl : i = n := by omega
        have HP := Lib.hid (show BlkR w S M l (blockD l (h + 1) s) (.returned u5) wr by
          rw [HX.out]
          exact ⟨_, rfl, HJ.out.1, HJ.out.2.1, HJ.out.2.2.1, fun h => HJ.out.2.2.2.2 (by rw [← HJ.out.2.2.2.1, h]; rfl)⟩)
        go_wp2_with fail
        go_ret
        exact HP.out
end Go.Proofs.YthiilnhiihfknaaDoor
