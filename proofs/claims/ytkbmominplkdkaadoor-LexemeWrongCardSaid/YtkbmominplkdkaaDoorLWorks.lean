/-
  works: its contract. Written by gen4_works.py.
-/
import Derived.Test.YtkbmominplkdkaaDoorLHas2
namespace Go.Proofs.YtkbmominplkdkaaDoor
open Go Go.RowKit Go.Sort

theorem toks_lit (w : World) (L : List Tk) (c : Nat) (T : TypeId) (h : L ≠ []) : Toks (w.alloc (.cells (flatT L).toArray T)) (.slice (some ⟨w.heap.size, 0, none⟩) L.length c) L := by
  refine .inr ⟨h, w.heap.size, 0, c, rfl, by simp, fun i t ht => ?_⟩
  refine ⟨?_, ?_, ?_⟩ <;> rw [cell_of_row _ _ _ _ _ _ (heap_alloc_new w _), List.getElem?_toArray]
  · rw [Nat.zero_add]; exact flatT_get L i t 0 ht (by decide)
  · rw [Nat.zero_add]; exact flatT_get L i t 1 ht (by decide)
  · rw [Nat.zero_add]; exact flatT_get L i t 2 ht (by decide)
theorem toks_none (w : World) : Toks w (.slice none 0 0) [] := .inl ⟨rfl, _, _, rfl⟩
theorem hasT {s : Bytes} {L : List Tk} (h : scan s = (L, none)) (hs : s.length ≤ 1000000) (v : Value) (W : World) (hG : Glob W) (hv : Toks W v L) :
    Calls Tryd.prog 18 #[.string (B s), v] W fun e w' => e = .returned (.bool true) ∧ Below W.heap.size W w' := by
  have := has_calls s hs L v W hG hv
  rw [decide_eq_true h] at this
  exact this
theorem wrongT {s : Bytes} {a : Nat} (h : (scan s).2 = some a) (hs : s.length ≤ 1000000) (W : World) (hG : Glob W) :
    Calls Tryd.prog 20 #[.string (B s), .int .i64 (a : Int)] W fun e w' => e = .returned (.bool true) ∧ Below W.heap.size W w' := by
  have := wrong_calls s hs (a : Int) W hG
  rw [decide_eq_true (by rw [h]; rfl)] at this
  exact this
theorem wk_h0 : scan [120, 60, 61, 49, 48, 59] = ([⟨1, [120], 0⟩, ⟨4, [60, 61], 1⟩, ⟨2, [49, 48], 3⟩, ⟨4, [59], 5⟩], none) := by decide +kernel
theorem wk_h1 : scan [102, 117, 110, 99, 32, 47, 47, 32, 97, 10, 97, 47, 98] = ([⟨3, [102, 117, 110, 99], 0⟩, ⟨1, [97], 10⟩, ⟨4, [47], 11⟩, ⟨1, [98], 12⟩], none) := by decide +kernel
theorem wk_h2 : scan [57, 50, 50, 51, 51, 55, 50, 48, 51, 54, 56, 53, 52, 55, 55, 53, 56, 48, 55] = ([⟨2, [57, 50, 50, 51, 51, 55, 50, 48, 51, 54, 56, 53, 52, 55, 55, 53, 56, 48, 55], 0⟩], none) := by decide +kernel
theorem wk_h3 : scan [] = ([], none) := by decide +kernel
theorem wk_w0 : (scan [49, 50, 97]).2 = some 0 := by decide +kernel
theorem wk_w1 : (scan [48, 49]).2 = some 0 := by decide +kernel
theorem wk_w2 : (scan [97, 32, 57, 50, 50, 51, 51, 55, 50, 48, 51, 54, 56, 53, 52, 55, 55, 53, 56, 48, 56]).2 = some 2 := by decide +kernel
theorem wk_w3 : (scan [97, 32, 36]).2 = some 2 := by decide +kernel
theorem wk_w4 : (scan [97, 32, 38, 32, 98]).2 = some 2 := by decide +kernel
theorem wk_w5 : (scan [97, 98, 99, 100, 101, 102, 103, 104, 105, 106, 107, 108, 109, 110, 111, 112, 113]).2 = some 0 := by decide +kernel

set_option maxRecDepth 100000 in
set_option maxHeartbeats 4000000 in
theorem works_calls (w : World) (hG : Glob w) :
    Calls Tryd.prog 9 #[] w fun e w' => e = .returned (.bool true) ∧ Below w.heap.size w w' := by
  have HG := Lib.hid hG
  have B0 := Lib.hid (Below.refl w.heap.size w)
  have H := Lib.hid (fun (W : World) (h : Below w.heap.size w W) => hG.below h)
  have K0 := Lib.hid (fun v W => hasT wk_h0 (by decide) v W)
  have K1 := Lib.hid (fun v W => hasT wk_h1 (by decide) v W)
  have K2 := Lib.hid (fun v W => hasT wk_h2 (by decide) v W)
  have K3 := Lib.hid (fun v W => hasT wk_h3 (by decide) v W)
  have J0 := Lib.hid (fun W => wrongT wk_w0 (by decide) W)
  have J1 := Lib.hid (fun W => wrongT wk_w1 (by decide) W)
  have J2 := Lib.hid (fun W => wrongT wk_w2 (by decide) W)
  have J3 := Lib.hid (fun W => wrongT wk_w3 (by decide) W)
  have J4 := Lib.hid (fun W => wrongT wk_w4 (by decide) W)
  have J5 := Lib.hid (fun W => wrongT wk_w5 (by decide) W)
  have kw1 : kwB [119, 104, 105, 108, 101] = true := by decide +kernel
  have kw2 : kwB [87, 104, 105, 108, 101] = false := by decide +kernel
  have R1 := fun W h => reserved_calls [119, 104, 105, 108, 101] W h
  have R2 := fun W h => reserved_calls [87, 104, 105, 108, 101] W h
  rw [kw1] at R1
  rw [kw2] at R2
  have R1 := Lib.hid R1
  have R2 := Lib.hid R2
  clear hG kw1 kw2
  go_enter Tryd.func9, Tryd.ntmps9
  try simp only [List.append_eq, List.cons_append, List.nil_append]
  go_wp2_with fail
  refine (K0.out _ _ (H.out _ (B0.out.alloc B0.out.size _)) (toks_lit _ [⟨1, [120], 0⟩, ⟨4, [60, 61], 1⟩, ⟨2, [49, 48], 3⟩, ⟨4, [59], 5⟩] 4 _ (by simp))).mono ?_
  rintro e w1 ⟨rfl, hb⟩
  have B1 := Lib.hid ((B0.out.alloc B0.out.size (.cells (flatT [⟨1, [120], 0⟩, ⟨4, [60, 61], 1⟩, ⟨2, [49, 48], 3⟩, ⟨4, [59], 5⟩]).toArray 32)).trans (hb.mono (by have := B0.out.size; simp <;> omega)))
  clear hb K0
  go_wp2_with fail
  refine (K1.out _ _ (H.out _ (B1.out.alloc B1.out.size _)) (toks_lit _ [⟨3, [102, 117, 110, 99], 0⟩, ⟨1, [97], 10⟩, ⟨4, [47], 11⟩, ⟨1, [98], 12⟩] 4 _ (by simp))).mono ?_
  rintro e w2 ⟨rfl, hb⟩
  have B2 := Lib.hid ((B1.out.alloc B1.out.size (.cells (flatT [⟨3, [102, 117, 110, 99], 0⟩, ⟨1, [97], 10⟩, ⟨4, [47], 11⟩, ⟨1, [98], 12⟩]).toArray 32)).trans (hb.mono (by have := B1.out.size; simp <;> omega)))
  clear hb K1
  go_wp2_with fail
  refine (K2.out _ _ (H.out _ (B2.out.alloc B2.out.size _)) (toks_lit _ [⟨2, [57, 50, 50, 51, 51, 55, 50, 48, 51, 54, 56, 53, 52, 55, 55, 53, 56, 48, 55], 0⟩] 1 _ (by simp))).mono ?_
  rintro e w3 ⟨rfl, hb⟩
  have B3 := Lib.hid ((B2.out.alloc B2.out.size (.cells (flatT [⟨2, [57, 50, 50, 51, 51, 55, 50, 48, 51, 54, 56, 53, 52, 55, 55, 53, 56, 48, 55], 0⟩]).toArray 32)).trans (hb.mono (by have := B2.out.size; simp <;> omega)))
  clear hb K2
  go_wp2_with fail
  refine (K3.out _ _ (H.out _ B3.out) (toks_none _)).mono ?_
  rintro e w4 ⟨rfl, hb⟩
  have B4 := Lib.hid (B3.out.trans (hb.mono B3.out.size))
  clear hb K3
  go_wp2_with fail
  refine (J0.out _ (H.out _ B4.out)).mono ?_
  rintro e w5 ⟨rfl, hb⟩
  have B5 := Lib.hid (B4.out.trans (hb.mono B4.out.size))
  clear hb J0
  go_wp2_with fail
  refine (J1.out _ (H.out _ B5.out)).mono ?_
  rintro e w6 ⟨rfl, hb⟩
  have B6 := Lib.hid (B5.out.trans (hb.mono B5.out.size))
  clear hb J1
  go_wp2_with fail
  refine (J2.out _ (H.out _ B6.out)).mono ?_
  rintro e w7 ⟨rfl, hb⟩
  have B7 := Lib.hid (B6.out.trans (hb.mono B6.out.size))
  clear hb J2
  go_wp2_with fail
  refine (J3.out _ (H.out _ B7.out)).mono ?_
  rintro e w8 ⟨rfl, hb⟩
  have B8 := Lib.hid (B7.out.trans (hb.mono B7.out.size))
  clear hb J3
  go_wp2_with fail
  refine (J4.out _ (H.out _ B8.out)).mono ?_
  rintro e w9 ⟨rfl, hb⟩
  have B9 := Lib.hid (B8.out.trans (hb.mono B8.out.size))
  clear hb J4
  go_wp2_with fail
  refine (J5.out _ (H.out _ B9.out)).mono ?_
  rintro e w10 ⟨rfl, hb⟩
  have B10 := Lib.hid (B9.out.trans (hb.mono B9.out.size))
  clear hb J5
  go_wp2_with fail
  refine (R1.out _ (H.out _ B10.out).kw).mono ?_
  rintro e wx ⟨rfl, rfl⟩
  go_wp2_with fail
  refine (R2.out _ (H.out _ B10.out).kw).mono ?_
  rintro e wx ⟨rfl, rfl⟩
  go_wp2_with fail
  go_ret
  exact ⟨rfl, B10.out⟩
end Go.Proofs.YtkbmominplkdkaaDoor

