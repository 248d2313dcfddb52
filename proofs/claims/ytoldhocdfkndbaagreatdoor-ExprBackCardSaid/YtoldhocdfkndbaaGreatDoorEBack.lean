/-
  ExprBack, its examples' contract given. Written by gen5_back.py.
-/
import Derived.Test.YtoldhocdfkndbaaGreatDoorECuts
import Derived.Test.YtoldhocdfkndbaaGreatDoorEConcat
import Derived.Test.YtoldhocdfkndbaaGreatDoorEWorks
import Derived.BigRegion
import Derived.Deep.RegionWith
import Derived.Deep.RegionHeld3
namespace Go.Proofs.YtoldhocdfkndbaaGreatDoor.E5
open Go Go.RowKit Go.Proofs.YtoldhocdfkndbaaGreatDoor

theorem rep_list (c : UInt8) : ∀ n, Lib.repeatL [c] n = List.replicate n c
  | 0 => rfl
  | n + 1 => by rw [Lib.repeatL, rep_list c n]; rfl
theorem rep_one (c : UInt8) (n : Nat) (w : World) (hn : n ≤ 1000) : Calls Tryz.prog 23 #[.string (B [c]), .int .i64 (n : Int)] w fun e w' => e = .returned (.string (B (List.replicate n c))) ∧ Below w.heap.size w w' := by
  have h := Tryz.strings_Repeat (B [c]) n w (by omega) (by
    have h1 : (B [c]).size = 1 := rfl
    rw [h1]
    omega)
  rw [show (⟨(Lib.repeatL (B [c]).data.toList n).toArray⟩ : ByteArray) = B (List.replicate n c) by rw [← rep_list]] at h
  exact h
theorem box_up {w w' : World} {z : Nat} {e : Ex} {v : Value} (h : S3.EBox w z e v) (hb : Below w.heap.size w w') : S3.EBox w' z e v := h.keep hb (World.block_lt_of_cell? _ _ h.c0)
def rowF : Array Value := #[Value.string ⟨#[]⟩, .string ⟨#[120]⟩, .string ⟨#[41, 32, 93]⟩, .string ⟨#[43, 32, 53]⟩]
def rowT : Array Value := #[Value.string ⟨#[]⟩, .string ⟨#[59]⟩, .string ⟨#[41]⟩, .string ⟨#[97]⟩, .string ⟨#[53]⟩, .string ⟨#[44, 32, 43]⟩, .string ⟨#[123]⟩, .string ⟨#[61, 32, 49]⟩, .string ⟨#[33]⟩, .string ⟨#[116, 114, 117, 101]⟩]
theorem litF (m : Nat) (hm : m < 4) : rowF[m]? = some (.string (B (frontB m))) := by
  match m, hm with
  | 0, _ => rfl
  | 1, _ => rfl
  | 2, _ => rfl
  | 3, _ => rfl
theorem litT (m : Nat) (hm : m < 10) : rowT[m]? = some (.string (B (tailB m))) := by
  match m, hm with
  | 0, _ => rfl
  | 1, _ => rfl
  | 2, _ => rfl
  | 3, _ => rfl
  | 4, _ => rfl
  | 5, _ => rfl
  | 6, _ => rfl
  | 7, _ => rfl
  | 8, _ => rfl
  | 9, _ => rfl
theorem cellF (w : World) (m : Nat) : (w.alloc (.cells #[Value.string ⟨#[]⟩, .string ⟨#[120]⟩, .string ⟨#[41, 32, 93]⟩, .string ⟨#[43, 32, 53]⟩] 9)).cell? ⟨w.heap.size, m % 4, none⟩ = some (.string (B (frontB (m % 4)))) := S3.newCell w rowF 9 (m % 4) _ (litF _ (by omega))
theorem cellT (w : World) (m : Nat) : (w.alloc (.cells #[Value.string ⟨#[]⟩, .string ⟨#[59]⟩, .string ⟨#[41]⟩, .string ⟨#[97]⟩, .string ⟨#[53]⟩, .string ⟨#[44, 32, 43]⟩, .string ⟨#[123]⟩, .string ⟨#[61, 32, 49]⟩, .string ⟨#[33]⟩, .string ⟨#[116, 114, 117, 101]⟩] 9)).cell? ⟨w.heap.size, m % 10, none⟩ = some (.string (B (tailB (m % 10)))) := S3.newCell w rowT 9 (m % 10) _ (litT _ (by omega))
theorem front_len : ∀ n < 4, (frontB n).length ≤ 4 := by decide
theorem tail_len : ∀ n < 10, (tailB n).length ≤ 4 := by decide
set_option maxRecDepth 100000 in
set_option maxHeartbeats 8000000 in
theorem back_law (hWk : WorksR) (ds : List Nat) (v : Value) (kp : Nat) (hkp : kp ≤ 255) (kb : Nat) (hkb : kb ≤ 255) (kf : Nat) (hkf : kf ≤ 255) (w : World) (hL : ByL w v ds) (hG : GlobA w) :
    Calls Tryz.prog 4 #[v, .int .u8 (kp : Int), .int .u8 (kb : Int), .int .u8 (kf : Int)] w fun e w' => e = .returned (.bool true) ∧ Below w.heap.size w w' := by
  obtain ⟨A, c, rfl, hlc, hc, h255, hcell⟩ := hL
  obtain ⟨n0, hk, hk1, hk2⟩ : ∃ k : Nat, min (ds.length : Int) 200 = (k : Int) ∧ k ≤ ds.length ∧ k ≤ 200 := ⟨min ds.length 200, by omega, by omega, by omega⟩
  have hkc : n0 ≤ c := by omega
  have hBy : ∀ o, BySl (w.alloc o) w.heap.size w.heap.size (.slice A n0 c) (ds.take n0) := fun o => by
    refine ⟨A, c, by rw [List.length_take, Nat.min_eq_left hk1], by rw [List.length_take]; omega, by omega, fun i x hi => ?_⟩
    rw [List.getElem?_take] at hi
    split at hi
    · obtain ⟨b, o', e1, e2, e3⟩ := hcell i x hi
      exact ⟨h255 x (List.mem_of_getElem? hi), b, o', e1, by omega, e2, ((S3.bal w o).cell (p := ⟨b, o' + i, none⟩) e2).trans e3⟩
    · cases hi
  have h255k : ∀ x ∈ ds.take n0, x ≤ 255 := fun x hx => h255 x (List.mem_of_mem_take hx)
  have hkl : (ds.take n0).length ≤ 200 := by rw [List.length_take]; omega
  obtain ⟨k, hkq, hk7⟩ : ∃ k : Nat, (kp : Int) % 8 = (k : Int) ∧ k ≤ 7 := ⟨kp % 8, by omega, by omega⟩
  have hkp' : (kp : Int) ≤ 255 := by omega
  have hkb' : (kb : Int) ≤ 255 := by omega
  have hkf' : (kf : Int) ≤ 255 := by omega
  have HWk := Lib.hid hWk
  have HG := Lib.hid hG
  have HCl := Lib.hid (fun o => cloneD_calls (hBy o) (by simp) (by simp) (by omega))
  clear hG hWk hBy hcell
  generalize ds.take n0 = dk at *
  go_enter Tryz.func4, Tryz.ntmps4
  try simp only [List.append_eq, List.cons_append, List.nil_append]
  go_wp2_with fail
  refine (HCl.out _).mono ?_
  rintro e w1 ⟨v1, rfl, hv1, hb⟩
  have hrow := (hb.block w.heap.size (by simp)).trans (heap_alloc_new w _)
  have HB1 := Lib.hid (after (S3.bal w _) hb)
  have hz1 : w.heap.size < w1.heap.size := by have := hb.size; simp at this; omega
  have HD := Lib.hid (dr_start hrow hz1 hv1)
  have hfz : w1.frozen? ⟨w.heap.size, 0, none⟩ = false := by unfold World.frozen?; rw [hrow]; rfl
  have hcl0 := (cell_of_row w1 _ 0 _ _ _ hrow).trans rfl
  obtain ⟨A1, c1, rfl, _, _, _⟩ := hv1
  have HB2 := Lib.hid (HB1.out.setCell (p := ⟨w.heap.size, 0, none⟩) (Nat.le_refl _) (.slice A1 dk.length c1))
  have ok := mkT_ok 5 dk h255k
  have hlen := mkT_len 5 dk h255k
  have hMd := made_calls (M := w1.heap.size) (p := w.heap.size) 5 6 dk (by decide) (by decide) h255k _ HD.out
  clear hb hrow HD
  go_wp2_with fail
  generalize w1.setCell ⟨w.heap.size, 0, none⟩ (.slice A1 dk.length c1) = w2 at *
  refine hMd.mono ?_
  clear hMd
  rintro e w3 ⟨A3, k3, c3, rfl, hE3, _, hF3⟩
  have HB3 := Lib.hid ((HB2.out.trans (frc_below hF3 (Nat.le_refl _) HB2.out.size)).alloc (Nat.le_trans HB2.out.size hF3.size) (S3.eO (mkT 5 dk).1.ex (.slice A3 k3 c3)))
  have HX3 := Lib.hid (S3.EBox.new w3 (mkT 5 dk).1.ex (.slice A3 k3 c3))
  have HE3 := Lib.hid ((er_in hE3 (Nat.le_refl _)).al (S3.eO (mkT 5 dk).1.ex (.slice A3 k3 c3)))
  have HTx := Lib.hid (fun W (hE : S3.EIn W W.heap.size (mkT 5 dk).1.ex.args (.slice A3 k3 c3)) (hG : GlobE W) => text_calls (mkT 5 dk).1 ok.1 (by omega) (.slice A3 k3 c3) W hE hG)
  have hwl : (List.replicate k (40 : UInt8) ++ ((mkT 5 dk).1.tx ++ List.replicate k 41)).length ≤ 100000 := by simp; omega
  have hS := fun W (hW : L4.Glob W) => scan_own (List.replicate k 40 ++ ((mkT 5 dk).1.tx ++ List.replicate k 41)) (by omega) W hW
  unfold ScanO at hS
  have hle := tlS_len (List.replicate k 40 ++ ((mkT 5 dk).1.tx ++ List.replicate k 41))
  rw [tlS_wrap ok.1] at hS hle
  have hPar := fun F T h1 h2 => back_plain ok.1 (by omega) hk7 F T h1 h2
  have hEx := (Tr.gd (mkT 5 dk).1 ok.1).exB (by omega)
  have hOk := tr_okE ok.1
  clear ok
  generalize (mkT 5 dk).1 = t at *
  have HS := Lib.hid hS
  have HPar := Lib.hid hPar
  clear hE3 hF3 hS HCl hfz hcl0 hPar
  have hcF := cellF (w3.alloc (S3.eO t.ex (.slice A3 k3 c3))) kf
  rw [S3.sz1] at hcF
  have hcT := cellT ((w3.alloc (S3.eO t.ex (.slice A3 k3 c3))).alloc (.cells #[Value.string ⟨#[]⟩, .string ⟨#[120]⟩, .string ⟨#[41, 32, 93]⟩, .string ⟨#[43, 32, 53]⟩] 9)) kb
  rw [S3.sz1, S3.sz1] at hcT
  have HfS := Lib.hid (fun W (hW : L4.Glob W) => scan_own (frontB (kf % 4)) (by have := front_len (kf % 4) (by omega); omega) W hW)
  have HtS := Lib.hid (fun W (hW : L4.Glob W) => scan_own (tailB (kb % 10)) (by have := tail_len (kb % 10) (by omega); omega) W hW)
  have hFl := Nat.le_trans (tlS_len (frontB (kf % 4))) (front_len (kf % 4) (by omega))
  have hTl := Nat.le_trans (tlS_len (tailB (kb % 10))) (tail_len (kb % 10) (by omega))
  have hTe := tailB_end (kb % 10) (by omega)
  have HTe := Lib.hid hTe
  clear hTe
  go_wp2_with fail
  have HB5 := Lib.hid (after (after HB3.out (S3.bal _ (.cells #[Value.string ⟨#[]⟩, .string ⟨#[120]⟩, .string ⟨#[41, 32, 93]⟩, .string ⟨#[43, 32, 53]⟩] 9))) (S3.bal _ (.cells #[Value.string ⟨#[]⟩, .string ⟨#[59]⟩, .string ⟨#[41]⟩, .string ⟨#[97]⟩, .string ⟨#[53]⟩, .string ⟨#[44, 32, 43]⟩, .string ⟨#[123]⟩, .string ⟨#[61, 32, 49]⟩, .string ⟨#[33]⟩, .string ⟨#[116, 114, 117, 101]⟩] 9)))
  have HX5 := Lib.hid (box_up (box_up HX3.out (S3.bal _ (.cells #[Value.string ⟨#[]⟩, .string ⟨#[120]⟩, .string ⟨#[41, 32, 93]⟩, .string ⟨#[43, 32, 53]⟩] 9))) (S3.bal _ (.cells #[Value.string ⟨#[]⟩, .string ⟨#[59]⟩, .string ⟨#[41]⟩, .string ⟨#[97]⟩, .string ⟨#[53]⟩, .string ⟨#[44, 32, 43]⟩, .string ⟨#[123]⟩, .string ⟨#[61, 32, 49]⟩, .string ⟨#[33]⟩, .string ⟨#[116, 114, 117, 101]⟩] 9)))
  have HE5 := Lib.hid ((HE3.out.al (.cells #[Value.string ⟨#[]⟩, .string ⟨#[120]⟩, .string ⟨#[41, 32, 93]⟩, .string ⟨#[43, 32, 53]⟩] 9)).al (.cells #[Value.string ⟨#[]⟩, .string ⟨#[59]⟩, .string ⟨#[41]⟩, .string ⟨#[97]⟩, .string ⟨#[53]⟩, .string ⟨#[44, 32, 43]⟩, .string ⟨#[123]⟩, .string ⟨#[61, 32, 49]⟩, .string ⟨#[33]⟩, .string ⟨#[116, 114, 117, 101]⟩] 9))
  clear HB3 HX3 HE3 hcF hcT
  generalize ((w3.alloc (.cells #[.int .i64 t.ex.kind, .int .i64 t.ex.op, .int .i64 t.ex.num, .string (S3.B t.ex.name), .slice A3 k3 c3] 32)).alloc (.cells #[Value.string ⟨#[]⟩, .string ⟨#[120]⟩, .string ⟨#[41, 32, 93]⟩, .string ⟨#[43, 32, 53]⟩] 9)).alloc (.cells #[Value.string ⟨#[]⟩, .string ⟨#[59]⟩, .string ⟨#[41]⟩, .string ⟨#[97]⟩, .string ⟨#[53]⟩, .string ⟨#[44, 32, 43]⟩, .string ⟨#[123]⟩, .string ⟨#[61, 32, 49]⟩, .string ⟨#[33]⟩, .string ⟨#[116, 114, 117, 101]⟩] 9) = w5 at *
  refine (HfS.out _ (HG.out.up HB5.out).l).mono ?_
  rintro e w6 ⟨A6, c6, rfl, hc6, _, hGr, hb⟩
  have HTf := Lib.hid (tokL_up (tokL_grA hGr (by omega)) (drew_below w6))
  have HB6 := Lib.hid (after (after HB5.out hb) (drew_below w6))
  have HE6 := Lib.hid ((HE5.out.up hb).up (drew_below w6))
  have hS0 := Lib.hid (box_up (box_up HX5.out hb) (drew_below w6))
  have hx3 : w3.heap.size < w6.drew.heap.size := World.block_lt_of_cell? _ _ hS0.out.c0
  clear hGr hb HB5 HX5 HE5 HfS
  go_wp2_with fail
  have qa0 := fun W1 (h : Hid (S3.EBox W1 w3.heap.size t.ex (.slice A3 k3 c3))) => h.out.c0
  have qa1 := fun W1 (h : Hid (S3.EBox W1 w3.heap.size t.ex (.slice A3 k3 c3))) => h.out.c1
  have qa2 := fun W1 (h : Hid (S3.EBox W1 w3.heap.size t.ex (.slice A3 k3 c3))) => h.out.c2
  have qa3 := fun W1 (h : Hid (S3.EBox W1 w3.heap.size t.ex (.slice A3 k3 c3))) => h.out.c3
  have qa4 := fun W1 (h : Hid (S3.EBox W1 w3.heap.size t.ex (.slice A3 k3 c3))) => h.out.c4
  have m1 : ¬ 9223372036854775807 < k + t.tx.length := by omega
  have m2 : ¬ 9223372036854775807 < k + t.tx.length + k := by omega
  refine wp_region_noPanic ?_
  refine wp_region_held_drew (S := fun W1 => Hid (S3.EBox W1 w3.heap.size t.ex (.slice A3 k3 c3))) (by kernel_rfl) hS0 (fun hHeld => ?_)
  clear hS0
  generalize w6.drew = wd at *
  refine wpAnyH_take (i := 0) (oi := { dst := some 40, op := Go.Op.move (Go.Operand.tmp 10), type := 3, pos := "outright.go:87", after := #[], guard := none }) (v := ?_) rfl (by as_aux_lemma => kernel_rfl) (by as_aux_lemma => kernel_rfl) (by as_aux_lemma => kernel_rfl) (fun _ _ _ h => h) (Or.inl ⟨by rfl, ?_⟩) hHeld ?_
  rotate_left
  · (intro w hSw; (try dsimp only at hSw); go_simp; try with_reducible rfl)
  try simp only [Act.put, List.setIfInBounds_toArray, List.set_cons_zero, List.set_cons_succ]
  refine wpAnyH_take (i := 2) (oi := { dst := some 42, op := Go.Op.load 32 (Go.Operand.tmp 9), type := 32, pos := "outright.go:87", after := #[], guard := none }) (v := ?_) rfl (by as_aux_lemma => kernel_rfl) (by as_aux_lemma => kernel_rfl) (by as_aux_lemma => kernel_rfl) (fun _ _ _ h => h) (Or.inl ⟨by rfl, ?_⟩) hHeld ?_
  rotate_left
  · (intro w hSw; (try dsimp only at hSw); go_simp; try with_reducible rfl)
  try simp only [Act.put, List.setIfInBounds_toArray, List.set_cons_zero, List.set_cons_succ]
  refine wpAnyH_take (i := 5) (oi := { dst := some 45, op := Go.Op.move (Go.Operand.tmp 10), type := 3, pos := "outright.go:87", after := #[], guard := none }) (v := ?_) rfl (by as_aux_lemma => kernel_rfl) (by as_aux_lemma => kernel_rfl) (by as_aux_lemma => kernel_rfl) (fun _ _ _ h => h) (Or.inl ⟨by rfl, ?_⟩) hHeld ?_
  rotate_left
  · (intro w hSw; (try dsimp only at hSw); go_simp; try with_reducible rfl)
  try simp only [Act.put, List.setIfInBounds_toArray, List.set_cons_zero, List.set_cons_succ]
  refine wpAnyH_ready (rs := [1]) (by as_aux_lemma => kernel_rfl) (List.cons_ne_nil _ _) ?_
  refine AllReadyH.cons (o := { dst := some 41, op := Go.Op.call { callee := Go.Callee.value (Go.Operand.func 23), args := #[Go.Operand.const (Go.Value.string { data := #[40] }), Go.Operand.tmp 40], argTypes := #[9, 3] }, type := 9, pos := "outright.go:87", after := #[{ on := 0, ground := Go.Ground.data }], guard := none }) rfl (fun K hK => ?_) AllReadyH.nil
  go_simp
  refine (rep_one 40 k _ (by omega)).mono ?_
  rintro e w7 ⟨rfl, hb⟩
  have HB7 := Lib.hid (after HB6.out hb)
  have HTf7 := Lib.hid (tokL_up HTf.out hb)
  have HE7 := Lib.hid (HE6.out.up hb)
  have hS7 := Lib.hid (box_up hHeld.out hb)
  clear hb
  go_wp2_with fail
  refine hK.out _ _ hS7 (fun hHeld2 => ?_)
  clear hK K hHeld
  have hHeld := hHeld2
  clear hHeld2
  try simp only [Act.put, List.setIfInBounds_toArray, List.set_cons_zero, List.set_cons_succ]
  refine wpAnyH_ready (rs := [3]) (by as_aux_lemma => kernel_rfl) (List.cons_ne_nil _ _) ?_
  refine AllReadyH.cons (o := { dst := some 43, op := Go.Op.call { callee := Go.Callee.value (Go.Operand.func 24), args := #[Go.Operand.tmp 42], argTypes := #[32] }, type := 9, pos := "outright.go:87", after := #[{ on := 2, ground := Go.Ground.data }, { on := 1, ground := Go.Ground.chain }], guard := none }) rfl (fun K hK => ?_) AllReadyH.nil
  go_simp
  refine (HTx.out _ HE7.out (HG.out.up HB7.out).e).mono ?_
  rintro e w8 ⟨rfl, hb⟩
  have HB8 := Lib.hid (after HB7.out hb)
  have HTf8 := Lib.hid (tokL_up HTf7.out hb)
  have HE8 := Lib.hid (HE7.out.up hb)
  have hS8 := Lib.hid (box_up hHeld.out hb)
  clear hb
  go_wp2_with fail
  refine hK.out _ _ hS8 (fun hHeld2 => ?_)
  clear hK K hHeld
  have hHeld := hHeld2
  clear hHeld2
  try simp only [Act.put, List.setIfInBounds_toArray, List.set_cons_zero, List.set_cons_succ]
  refine wpAnyH_take (i := 4) (oi := { dst := some 44, op := Go.Op.binOp Go.BinOp.add 9 (Go.Operand.tmp 41) (Go.Operand.tmp 43) 9, type := 9, pos := "outright.go:87", after := #[{ on := 1, ground := Go.Ground.data }, { on := 3, ground := Go.Ground.data }], guard := none }) (v := ?_) rfl (by as_aux_lemma => kernel_rfl) (by as_aux_lemma => kernel_rfl) (by as_aux_lemma => kernel_rfl) (fun _ _ _ h => h) (Or.inl ⟨by rfl, ?_⟩) hHeld ?_
  rotate_left
  · (intro w hSw; (try dsimp only at hSw); go_simp; try with_reducible rfl)
  try simp only [Act.put, List.setIfInBounds_toArray, List.set_cons_zero, List.set_cons_succ]
  refine wpAnyH_ready (rs := [6]) (by as_aux_lemma => kernel_rfl) (List.cons_ne_nil _ _) ?_
  refine AllReadyH.cons (o := { dst := some 46, op := Go.Op.call { callee := Go.Callee.value (Go.Operand.func 23), args := #[Go.Operand.const (Go.Value.string { data := #[41] }), Go.Operand.tmp 45], argTypes := #[9, 3] }, type := 9, pos := "outright.go:87", after := #[{ on := 5, ground := Go.Ground.data }, { on := 3, ground := Go.Ground.chain }], guard := none }) rfl (fun K hK => ?_) AllReadyH.nil
  go_simp
  refine (rep_one 41 k _ (by omega)).mono ?_
  rintro e w9 ⟨rfl, hb⟩
  have HB9 := Lib.hid (after HB8.out hb)
  have HTf9 := Lib.hid (tokL_up HTf8.out hb)
  have HE9 := Lib.hid (HE8.out.up hb)
  have hS9 := Lib.hid (box_up hHeld.out hb)
  clear hb
  go_wp2_with fail
  refine hK.out _ _ hS9 (fun hHeld2 => ?_)
  clear hK K hHeld
  have hHeld := hHeld2
  clear hHeld2
  try simp only [Act.put, List.setIfInBounds_toArray, List.set_cons_zero, List.set_cons_succ]
  refine wpAnyH_ready (rs := [7]) (by as_aux_lemma => kernel_rfl) (List.cons_ne_nil _ _) ?_
  refine AllReadyH.cons (o := { dst := some 47, op := Go.Op.binOp Go.BinOp.add 9 (Go.Operand.tmp 44) (Go.Operand.tmp 46) 9, type := 9, pos := "outright.go:87", after := #[{ on := 4, ground := Go.Ground.data }, { on := 6, ground := Go.Ground.data }], guard := none }) rfl (fun K hK => ?_) AllReadyH.nil
  go_simp
  refine hK.out _ _ hHeld (fun _ => ?_)
  clear hK K
  try simp only [Act.put, List.setIfInBounds_toArray, List.set_cons_zero, List.set_cons_succ]
  refine wpAnyH_ready (rs := [8]) (by as_aux_lemma => kernel_rfl) (List.cons_ne_nil _ _) ?_
  refine AllReadyH.cons (o := { dst := some 48, op := Go.Op.call { callee := Go.Callee.value (Go.Operand.func 22), args := #[Go.Operand.tmp 47], argTypes := #[9] }, type := 35, pos := "outright.go:87", after := #[{ on := 7, ground := Go.Ground.data }, { on := 6, ground := Go.Ground.chain }], guard := none }) rfl (fun K hK => ?_) AllReadyH.nil
  go_simp
  have hs : (B (List.replicate k 40) ++ B t.tx ++ B (List.replicate k 41) : ByteArray) = B (List.replicate k 40 ++ (t.tx ++ List.replicate k 41)) := by rw [B_two, B_two, List.append_assoc]
  rw [hs]
  refine (HS.out _ (HG.out.up HB9.out).l).mono ?_
  rintro e w10 ⟨A10, c10, rfl, hc10, _, hGr, hb⟩
  have HTb10 := Lib.hid (tokL_grA hGr (by omega))
  clear hGr
  have HB10 := Lib.hid (after HB9.out hb)
  have HTf10 := Lib.hid (tokL_up HTf9.out hb)
  have HE10 := Lib.hid (HE9.out.up hb)
  have hS10 := Lib.hid (box_up hHeld.out hb)
  clear hb
  go_wp2_with fail
  refine hK.out _ _ hS10 (fun hHeld2 => ?_)
  clear hK K hHeld
  have hHeld := hHeld2
  clear hHeld2
  try simp only [Act.put, List.setIfInBounds_toArray, List.set_cons_zero, List.set_cons_succ]
  refine wpAnyH_ready (rs := [9]) (by as_aux_lemma => kernel_rfl) (List.cons_ne_nil _ _) ?_
  refine AllReadyH.cons (o := { dst := some 14, op := Go.Op.assign (Go.Operand.tmp 48), type := 35, pos := "outright.go:87", after := #[{ on := 8, ground := Go.Ground.data }, { on := 8, ground := Go.Ground.chain }, { on := 0, ground := Go.Ground.phase }, { on := 1, ground := Go.Ground.phase }, { on := 2, ground := Go.Ground.phase }, { on := 3, ground := Go.Ground.phase }, { on := 4, ground := Go.Ground.phase }, { on := 5, ground := Go.Ground.phase }, { on := 6, ground := Go.Ground.phase }, { on := 7, ground := Go.Ground.phase }, { on := 8, ground := Go.Ground.phase }], guard := none }) rfl (fun K hK => ?_) AllReadyH.nil
  go_simp
  refine hK.out _ _ hHeld (fun _ => ?_)
  clear hK K
  try simp only [Act.put, List.setIfInBounds_toArray, List.set_cons_zero, List.set_cons_succ]
  refine wpAnyH_done (by kernel_rfl) ?_ _
  refine NoPanic.normal ?_
  go_wp2_with fail
  refine (HtS.out _ (HG.out.up HB10.out).l).mono ?_
  rintro e w11 ⟨A11, c11, rfl, hc11, _, hGr, hb⟩
  have HTt11 := Lib.hid (tokL_grA hGr (by omega))
  have HB11 := Lib.hid (after HB10.out hb)
  have HTf11 := Lib.hid (tokL_up HTf10.out hb)
  have HTb11 := Lib.hid (tokL_up HTb10.out hb)
  have hS11 := Lib.hid (box_up hS10.out hb)
  have HE11 := Lib.hid (HE10.out.up hb)
  clear hGr hb
  go_wp2_with fail
  have hb0 := S3.bal w11 (.cells #[.slice A6 (tlS (frontB (kf % 4))).length c6, .slice A10 (wrapT k t.tk).length c10, .slice A11 (tlS (tailB (kb % 10))).length c11] 35)
  refine (concat3 (b := w11.heap.size) (tokL_up HTf11.out hb0) (tokL_up HTb11.out hb0) (tokL_up HTt11.out hb0) (S3.newCell w11 #[.slice A6 (tlS (frontB (kf % 4))).length c6, .slice A10 (wrapT k t.tk).length c10, .slice A11 (tlS (tailB (kb % 10))).length c11] 35 0 _ rfl) (S3.newCell w11 #[.slice A6 (tlS (frontB (kf % 4))).length c6, .slice A10 (wrapT k t.tk).length c10, .slice A11 (tlS (tailB (kb % 10))).length c11] 35 1 _ rfl) (S3.newCell w11 #[.slice A6 (tlS (frontB (kf % 4))).length c6, .slice A10 (wrapT k t.tk).length c10, .slice A11 (tlS (tailB (kb % 10))).length c11] 35 2 _ rfl) (by omega)).mono ?_
  rintro e w12 ⟨v12, rfl, hG12, hb⟩
  have HB12 := Lib.hid (after (after HB11.out hb0) hb)
  have hS12 := Lib.hid (box_up (box_up hS11.out hb0) hb)
  have HE12 := Lib.hid ((HE11.out.up hb0).up hb)
  have hTk := tokL_grA hG12 (by simp; omega)
  obtain ⟨A12, c12, rfl, _, _⟩ := gr_cap hG12
  have hP := parse_calls (i := (tlS (frontB (kf % 4))).length) (d := 0) hTk (HG.out.up HB12.out).e (by simp) (by decide)
  rw [List.append_assoc, HPar.out _ _ HTe.out.1 HTe.out.2] at hP
  simp only [List.length_append] at hP
  have HP := Lib.hid hP
  clear hG12 hb hb0 hTk hP
  go_wp2_with fail
  refine HP.out.mono ?_
  clear HP
  rintro E w13 ⟨A13, k13, c13, rfl, _, hE13, hb⟩
  have hb0 := S3.bal w13 (S3.eO t.ex (.slice A13 k13 c13))
  have HB14 := Lib.hid (after (after HB12.out hb) hb0)
  have HE14 := Lib.hid ((HE12.out.up hb).up hb0)
  have HE14' := Lib.hid ((er_in hE13 (Nat.le_refl _)).al (S3.eO t.ex (.slice A13 k13 c13)))
  obtain ⟨x0, x1, x2, x3, x4⟩ := box_up (box_up hS12.out hb) hb0
  have hY := S3.EBox.new w13 t.ex (.slice A13 k13 c13)
  have HY := Lib.hid hY
  obtain ⟨y0, y1, y2, y3, y4⟩ := hY
  have hcnt : ((((tlS (frontB (kf % 4))).length + (wrapT k t.tk).length : Nat) : Int) == ((tlS (frontB (kf % 4))).length : Int) + ((wrapT k t.tk).length : Int)) = true := by simp
  clear hE13 hb hb0
  go_wp2_with fail
  refine (same_true t.ex hOk hEx (.slice A13 k13 c13) (.slice A3 k3 c3) _ HE14'.out HE14.out (HG.out.up HB14.out).e.s).mono ?_
  rintro E w15 ⟨rfl, hb⟩
  have HB15 := Lib.hid (after HB14.out hb)
  have HE15 := Lib.hid (HE14'.out.up hb)
  obtain ⟨z0, z1, z2, z3, z4⟩ := box_up HY.out hb
  have hX := S3.expr_calls t.ex hOk (.slice A13 k13 c13) w15 HE15.out (HG.out.up HB15.out).e.s
  rw [hEx, S3.errI_true] at hX
  have HX := Lib.hid hX
  clear hb hX x0 x1 x2 x3 x4 y0 y1 y2 y3 y4
  go_wp2_with fail
  refine HX.out.mono ?_
  rintro E w16 ⟨rfl, hb⟩
  have HB16 := Lib.hid (after HB15.out hb)
  clear hb
  go_wp2_with fail
  refine (HWk.out _ (HG.out.up HB16.out)).mono ?_
  rintro E w17 ⟨rfl, hb⟩
  have HB17 := Lib.hid (after HB16.out hb)
  clear hb
  go_wp2_with fail
  go_ret
  exact ⟨rfl, HB17.out⟩
end Go.Proofs.YtoldhocdfkndbaaGreatDoor.E5
