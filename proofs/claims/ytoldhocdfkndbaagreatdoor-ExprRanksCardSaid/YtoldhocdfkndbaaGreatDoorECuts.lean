/-
  ExprCuts, its examples' contract given.
-/
import Derived.Test.YtoldhocdfkndbaaGreatDoorEMade
import Derived.Test.YtoldhocdfkndbaaGreatDoorEText
import Derived.Test.YtoldhocdfkndbaaGreatDoorEDraftL
import Derived.Test.YtoldhocdfkndbaaGreatDoorETk
import Derived.Test.YtoldhocdfkndbaaGreatDoorEBackP
import Derived.Test.YtoldhocdfkndbaaGreatDoorEFrame
import Derived.Deep.AppendLies
namespace Go.Proofs.YtoldhocdfkndbaaGreatDoor.E5
open Go Go.RowKit Go.Proofs.YtoldhocdfkndbaaGreatDoor

theorem frc_below {p n : Nat} {w w' : World} (h : FrC p w w') (hp : n ≤ p) (hn : n ≤ w.heap.size) : Below n w w' := ⟨h.os, h.tape, h.output, h.size, fun k hk => h.block k (by omega) (by omega)⟩
theorem tokTake {W : World} {M k c : Nat} {A : Option Addr} {l : TL} (h : TokL W M (.slice A l.length c) l) (hk : k ≤ l.length) : TokL W M (.slice A k c) (l.take k) := by
  obtain ⟨A', c', h1, h2, h3⟩ := h
  obtain ⟨rfl, _, rfl⟩ := Value.slice.inj h1
  refine ⟨A, c, by rw [List.length_take, Nat.min_eq_left hk], by rw [List.length_take]; omega, fun i t ht => ?_⟩
  rw [List.getElem?_take] at ht
  split at ht
  · exact h3 i t ht
  · cases ht
theorem tokL_up {W W' : World} {v : Value} {l : TL} (h : TokL W W.heap.size v l) (hb : Below W.heap.size W W') : TokL W' W'.heap.size v l := (h.bel hb).keep hb.size fun _ _ _ => rfl
theorem tokDrop {W : World} {M j n c b o : Nat} {l : TL} (h : TokL W M (.slice (some ⟨b, o, none⟩) n c) l) (hj : j ≤ l.length) : TokL W M (.slice (some ⟨b, o + j * 3, none⟩) (n - j) (c - j)) (l.drop j) := by
  obtain ⟨A', c', h1, h2, h3⟩ := h
  cases h1
  refine ⟨_, _, by rw [List.length_drop], by rw [List.length_drop]; omega, fun i t ht => ?_⟩
  rw [List.getElem?_drop] at ht
  obtain ⟨e0, b', o', a, e1, e2, e3, e4, e5⟩ := h3 (j + i) t ht
  cases e1
  refine ⟨e0, b, o + j * 3, a, rfl, e2, ?_, ?_, ?_⟩
  · rw [show o + j * 3 + i * 3 = o + (j + i) * 3 by omega]; exact e3
  · rw [show o + j * 3 + i * 3 + 1 = o + (j + i) * 3 + 1 by omega]; exact e4
  · rw [show o + j * 3 + i * 3 + 2 = o + (j + i) * 3 + 2 by omega]; exact e5
/-- A draft that was cloned into its variable. -/
theorem dr_start {w : World} {p : Nat} {ds : List Nat} {u v : Value} {T : TypeId} (h1 : w.heap[p]? = some (.cells #[u] T (0, 0))) (hp : p < w.heap.size) (hv : BySl w w.heap.size p v ds) : Dr (w.setCell ⟨p, 0, none⟩ v) w.heap.size p ds := by
  refine ⟨⟨v, T, ?_, hv.fr (Nat.le_refl _) ((FrC.refl p w).set 0 v)⟩, hp, by simp [World.setCell]⟩
  simp only [World.setCell, Array.getElem?_modify, if_true, h1]
  rfl
theorem slice_tok (W : World) (b o n c j : Nat) (hj : j ≤ n) (hc : ¬ c = j) : (Instr.slice 35 (.slice (some ⟨b, o, none⟩) n c) (some (.int .i64 (j : Int))) none none).run Tryz.prog W = .ok (.slice (some ⟨b, o + j * 3, none⟩) (n - j) (c - j)) W := by
  have he : Tryz.prog.elem 35 = 44 := by kernel_rfl
  have ht' : Tryz.prog.underlying 35 = some (.slice (Tryz.prog.elem 35)) := by rw [he]; exact Tryz.underlying35
  obtain ⟨i0, hi, _, _, _⟩ := L4.info_partsT L4.infoTok
  have hz : (Go.sizeOf 44).run Tryz.prog W = .ok 3 W := by rw [run_sizeOf W hi]; exact congrArg (fun n => Result.ok n W) (by kernel_rfl : Tryz.prog.cellsOf 44 = 3)
  rw [run_slice_l W _ _ _ _ ht' .i64 _ (by omega) (by omega), he, hz]
  simp [Result.andThen, sliced, hc, add_plain]
set_option maxRecDepth 100000 in
set_option maxHeartbeats 4000000 in
theorem cuts_law (hWk : WorksR) (ds : List Nat) (v : Value) (m : Nat) (hm : m ≤ 65535) (w : World) (hL : ByL w v ds) (hG : GlobA w) :
    Calls Tryz.prog 6 #[v, .int .u16 (m : Int)] w fun e w' => e = .returned (.bool true) ∧ Below w.heap.size w w' := by
  obtain ⟨A, c, rfl, hlc, hc, h255, hcell⟩ := hL
  obtain ⟨k, hk, hk1, hk2⟩ : ∃ k : Nat, min (ds.length : Int) 60 = (k : Int) ∧ k ≤ ds.length ∧ k ≤ 60 := ⟨min ds.length 60, by omega, by omega, by omega⟩
  have hkc : k ≤ c := by omega
  have hBy : ∀ o, BySl (w.alloc o) w.heap.size w.heap.size (.slice A k c) (ds.take k) := fun o => by
    refine ⟨A, c, by rw [List.length_take, Nat.min_eq_left hk1], by rw [List.length_take]; omega, by omega, fun i x hi => ?_⟩
    rw [List.getElem?_take] at hi
    split at hi
    · obtain ⟨b, o', e1, e2, e3⟩ := hcell i x hi
      exact ⟨h255 x (List.mem_of_getElem? hi), b, o', e1, by omega, e2, ((S3.bal w o).cell (p := ⟨b, o' + i, none⟩) e2).trans e3⟩
    · cases hi
  have h255k : ∀ x ∈ ds.take k, x ≤ 255 := fun x hx => h255 x (List.mem_of_mem_take hx)
  have hkl : (ds.take k).length ≤ 60 := by rw [List.length_take]; omega
  have HWk := Lib.hid hWk
  have HG := Lib.hid hG
  have HCl := Lib.hid (fun o => cloneD_calls (hBy o) (by simp) (by simp) (by omega))
  clear hG hWk hBy hcell
  generalize ds.take k = dk at *
  go_enter Tryz.func6, Tryz.ntmps6
  try simp only [List.append_eq, List.cons_append, List.nil_append]
  go_wp2_with fail
  refine (HCl.out _).mono ?_
  rintro e w1 ⟨v1, rfl, hv1, hb⟩
  have hrow := (hb.block w.heap.size (by simp)).trans (heap_alloc_new w _)
  have HB1 := Lib.hid (after (S3.bal w _) hb)
  have hz1 : w.heap.size < w1.heap.size := by have := hb.size; simp at this; omega
  have HD := Lib.hid (dr_start hrow hz1 hv1)
  have hfz : w1.frozen? ⟨w.heap.size, 0, none⟩ = false := by unfold World.frozen?; rw [hrow]; rfl
  have hcl0 := (cell_of_row w1 _ 0 _ _ _ hrow).trans rfl
  obtain ⟨A1, c1, rfl, _, _, _⟩ := hv1
  have HB2 := Lib.hid (HB1.out.setCell (p := ⟨w.heap.size, 0, none⟩) (Nat.le_refl _) (.slice A1 dk.length c1))
  have ok := mkT_ok 3 dk h255k
  have hlen := mkT_len 3 dk h255k
  have hMd := made_calls (M := w1.heap.size) (p := w.heap.size) 3 4 dk (by decide) (by decide) h255k _ HD.out
  clear hb hrow HD
  go_wp2_with fail
  generalize w1.setCell ⟨w.heap.size, 0, none⟩ (.slice A1 dk.length c1) = w2 at *
  refine hMd.mono ?_
  clear hMd
  rintro e w3 ⟨A3, k3, c3, rfl, hE3, _, hF3⟩
  have HB3 := Lib.hid (HB2.out.trans (frc_below hF3 (Nat.le_refl _) HB2.out.size))
  have hT3 := text_calls (mkT 3 dk).1 ok.1 (by omega) (.slice A3 k3 c3) w3 (er_in hE3 (Nat.le_refl _)) (HG.out.up HB3.out).e
  have hS := fun W (hW : L4.Glob W) => scan_own (mkT 3 dk).1.tx (by omega) W hW
  unfold ScanO at hS
  have hle := tlS_len (mkT 3 dk).1.tx
  rw [tlS_tree ok.1] at hS hle
  obtain ⟨ok1, ok2, _⟩ := ok
  generalize (mkT 3 dk).1 = t at *
  have HS := Lib.hid hS
  clear hE3 hF3 hS HCl hfz hcl0
  go_wp2_with fail
  refine hT3.mono ?_
  clear hT3
  rintro e w4 ⟨rfl, hb⟩
  have HB4 := Lib.hid (after HB3.out hb)
  clear hb
  go_wp2_with fail
  refine (HS.out _ (HG.out.up HB4.out).l).mono ?_
  rintro e w5 ⟨A5, c5, rfl, hc5, hc6, hGr, hb⟩
  have HB5 := Lib.hid (after HB4.out hb)
  have HTk := Lib.hid (tokL_grA hGr (by omega))
  obtain ⟨j, hj, hjn⟩ : ∃ j : Nat, (m : Int) % ((t.tk.length : Int) + 1) = (j : Int) ∧ j ≤ t.tk.length := ⟨m % (t.tk.length + 1), by push_cast; rfl, by have := Nat.mod_lt m (show 0 < t.tk.length + 1 by omega); omega⟩
  have hjc : j ≤ c5 := by omega
  have hz5 : w.heap.size ≤ w5.heap.size := HB5.out.size
  have hcase : (∃ e, parseR (t.tk.take j) 0 0 = .ok e j ∧ S3.exB e = true ∧ (j = t.tk.length ∨ (j < t.tk.length ∧ ∃ s, t.tk[j]? = some (4, s)))) ∨
      (j < t.tk.length ∧ parseR (t.tk.take j) 0 0 = .bad j 7 ∧ parseR (t.tk.take j ++ (4, [59]) :: t.tk.drop j) 0 0 = .bad j 7) := by
    rcases Nat.lt_or_ge j t.tk.length with h1 | h1
    · obtain ⟨r, hr, e1, e2⟩ := cut_plain ok1 (by omega) h1
      rcases hr with rfl | ⟨e, rfl, h2, h3⟩
      · exact .inr ⟨h1, e1, e2⟩
      · exact .inl ⟨e, e1, h2, .inr ⟨h1, h3⟩⟩
    · obtain rfl : j = t.tk.length := by omega
      refine .inl ⟨t.ex, ?_, (Tr.gd t ok1).exB (by omega), .inl rfl⟩
      rw [List.take_length]
      exact whole_plain ok1 (by omega)
  have hP := parse_calls (l := t.tk.take j) (i := 0) (d := 0) (tokTake HTk.out hjn) (HG.out.up HB5.out).e (Nat.zero_le _) (by decide)
  clear hb hGr HS
  go_wp2_with fail
  rw [hj]
  clear hj
  rcases hcase with ⟨e, hr, hx, hend⟩ | ⟨hlt, hr, hr2⟩
  · rw [hr] at hP
    refine hP.mono ?_
    clear hP
    rintro E w6 ⟨A6, k6, c6, rfl, hoE, hE6, hb⟩
    have HB6 := Lib.hid (after (after HB5.out hb) (S3.bal w6 (S3.eO e (.slice A6 k6 c6))))
    have hX := S3.expr_calls e hoE (.slice A6 k6 c6) _ ((er_in hE6 (Nat.le_refl _)).al (S3.eO e (.slice A6 k6 c6))) (HG.out.up HB6.out).e.s
    rw [hx, S3.errI_true] at hX
    have HX := Lib.hid hX
    have HT6 := Lib.hid (tokL_up HTk.out (after hb (S3.bal w6 (S3.eO e (.slice A6 k6 c6)))))
    clear hX hE6 hb
    rcases hend with rfl | ⟨hlt, s, hs⟩
    · go_wp2_with fail
      refine HX.out.mono ?_
      rintro E w7 ⟨rfl, hb⟩
      have HB7 := Lib.hid (after HB6.out hb)
      clear hb
      go_wp2_with fail
      refine (HWk.out _ (HG.out.up HB7.out)).mono ?_
      rintro E w8 ⟨rfl, hb⟩
      have HB8 := Lib.hid (after HB7.out hb)
      clear hb
      go_wp2_with fail
      go_ret
      exact ⟨rfl, HB8.out⟩
    · have hne : ((j : Int) == (t.tk.length : Int)) = false := by simp; omega
      obtain ⟨A', c', e1, e2, e3⟩ := HT6.out
      cases e1
      obtain ⟨_, b, o, z, rfl, e5, d0, _, _⟩ := e3 j (4, s) hs
      clear e3
      simp only at d0
      go_wp2_with fail
      refine HX.out.mono ?_
      rintro E w7 ⟨rfl, hb⟩
      have HB7 := Lib.hid (after HB6.out hb)
      clear hb
      go_wp2_with fail
      refine (HWk.out _ (HG.out.up HB7.out)).mono ?_
      rintro E w8 ⟨rfl, hb⟩
      have HB8 := Lib.hid (after HB7.out hb)
      clear hb
      go_wp2_with fail
      go_ret
      exact ⟨rfl, HB8.out⟩
  · rw [hr] at hP
    refine hP.mono ?_
    clear hP
    rintro E w6 ⟨rfl, hb⟩
    have HB6 := Lib.hid (after (after HB5.out hb) (S3.bal w6 (S3.eO zE (.slice none 0 0))))
    have hTb := after hb (S3.bal w6 (S3.eO zE (.slice none 0 0)))
    have HT6 := Lib.hid (tokL_up HTk.out hTb)
    clear hb hTb HTk
    obtain ⟨i0, hi0, hq0, hq1, hq2⟩ := L4.info_partsT L4.infoTok
    have HI0 := Lib.hid hi0
    have HZ0 := Lib.hid hq0
    have HZ1 := Lib.hid hq1
    have HZ2 := Lib.hid hq2
    clear hi0 hq0 hq1 hq2
    have hCt := cloneT_calls (tokTake HT6.out hjn) (by rw [List.length_take]; omega)
    have hl1 : (t.tk.take j).length = j := by rw [List.length_take]; omega
    have hl2 : (t.tk.drop j).length = t.tk.length - j := List.length_drop
    go_wp2_with fail
    generalize w6.alloc (.cells #[.int .i64 zE.kind, .int .i64 zE.op, .int .i64 zE.num, .string (S3.B zE.name), .slice none 0 0] 32) = w7 at *
    refine hCt.mono ?_
    clear hCt
    rintro E w8 ⟨v8, rfl, hG8, hb⟩
    have hz8 := hb.size
    have HB8 := Lib.hid (after HB6.out hb)
    have HTb := Lib.hid (HT6.out.bel hb)
    have hz7 := HB6.out.size
    obtain ⟨A8, c8, rfl, hc8, hc8'⟩ := gr_cap hG8
    obtain ⟨xs, hown, hst⟩ := hG8.own
    rw [hl1] at hown hst hc8 ⊢
    have HOW := Lib.hid hown
    have HST := Lib.hid hst
    have HDr := Lib.hid (fun (W : World) (b o : Nat) (h : TokL W w7.heap.size (.slice (some ⟨b, o, none⟩) t.tk.length c5) t.tk) => tokDrop h hjn)
    have hAt : ∃ b o, A5 = some ⟨b, o, none⟩ := by
      obtain ⟨A', c', e1, _, e3⟩ := HT6.out
      cases e1
      obtain ⟨_, b, o, _, e4, _⟩ := e3 j _ (List.getElem?_eq_getElem hlt)
      exact ⟨b, o, e4⟩
    obtain ⟨b, o, rfl⟩ := hAt
    clear hb hG8 hown hst HT6
    generalize t.tk.take j = T1 at *
    generalize t.tk.drop j = T2 at *
    have hjl : j ≤ 1000 := by omega
    have HL1 := Lib.hid hl1
    clear hl1
    go_wp2_with (at_builtin; go_loud (refine wpList_append_lies _ rfl (.tmp 74) (.tmp 76) 35 rfl w7.heap.size 44 i0 _ 3 32 Tryz.underlying35 HI0.out HZ0.out HZ1.out HZ2.out rfl (by decide) (.slice A8 j c8) j xs rfl (HOW.out.alloc _) ⟨w8.heap.size, 0, none⟩ 1 1 [.int .i64 4, .string ⟨#[59]⟩, .int .i64 0] rfl rfl (news_new _ _ _ _ rfl) (by intro u hu; simp at hu; rcases hu with rfl | rfl | rfl <;> rfl) (by decide) (by unfold maxLen; omega) (by omega) (by simp; omega) _ rfl ?_))
    intro g8 cap8 w9 hown9 hgr9 hat9 hlt9
    obtain ⟨hG9, hb9⟩ := HST.out (4, [59]) 0 _ g8 cap8 w9 (by show ([59] : List UInt8).length ≤ 9223372036854775807; decide) hown9 hgr9 (by rcases hat9 with h | h; exact .inl h; exact .inr (by rw [h]; simp))
    have HB9 := Lib.hid (HB8.out.trans (hb9.mono (by omega)))
    have hTd := HDr.out w9 b o (HTb.out.bel hb9)
    obtain ⟨hlen2, V2, ht2, hr2'⟩ := tok_rows hTd
    obtain ⟨b', o', e9, hbb, hcells⟩ := hr2' (by omega)
    cases e9
    obtain ⟨xs2, hown2, hst2⟩ := hG9.cat (m := T2) (U := V2) (fun q a hq => ht2 q a hq)
    have hl9 : (T1 ++ [((4 : Int), ([59] : List UInt8))]).length = j + 1 := by simp [HL1.out]
    rw [hl9] at hown2 hst2
    rw [← hlen2] at hst2
    have HFL := Lib.hid (show (kA.rows T2 V2).flatten.length = (t.tk.length - j) * 3 from by rw [S3.flat_len (S3.RowKind.rows_sz T2 V2), S3.RowKind.rows_len, hlen2]; rfl)
    have HOW2 := Lib.hid hown2
    have HST2 := Lib.hid hst2
    have HCL := Lib.hid hcells
    have hz9 := hb9.size
    clear hown9 hgr9 hat9 HOW HST hb9 hTd HDr hr2' hcells hown2 hst2 hG9
    have q82 := fun W => slice_tok W b o t.tk.length c5 j hjn (by omega)
    have HT2l := Lib.hid (show T2.length ≤ 100000 from by omega)
    clear hl2 hlen2
    go_wp2_with (at_builtin; go_loud (refine wpList_append_lies _ rfl (.tmp 79) (.tmp 82) 35 rfl w7.heap.size 44 i0 _ 3 32 Tryz.underlying35 HI0.out HZ0.out HZ1.out HZ2.out rfl (by decide) (.slice (some ⟨g8, 0, none⟩) (j + 1) cap8) (j + 1) xs2 rfl HOW2.out ⟨b, o + j * 3, none⟩ (t.tk.length - j) (c5 - j) (kA.rows T2 V2).flatten rfl HFL.out (fun q u hu => (by rw [add_plain]; exact HCL.out q u hu)) (kA_one T2 V2) (by omega) (by unfold maxLen; omega) (by omega) (by omega) _ rfl ?_))
    intro g9 cap9 w10 hown10 hgr10 hat10 hlt10
    obtain ⟨hG10, hb10⟩ := HST2.out g9 cap9 w10 hown10 hgr10 hat10
    have HB10 := Lib.hid (HB9.out.trans (hb10.mono (by omega)))
    have hTk := tokL_grA hG10 (by have h8 := HT2l.out; have h9 := HL1.out; simp; omega)
    have hP := parse_calls (i := 0) (d := 0) hTk (HG.out.up HB10.out).e (Nat.zero_le _) (by decide)
    rw [show T1 ++ [((4 : Int), ([59] : List UInt8))] ++ T2 = T1 ++ (4, [59]) :: T2 by simp, hr2] at hP
    have HP := Lib.hid hP
    clear hown10 hgr10 hat10 HOW2 HST2 hb10 hG10 hTk hP
    go_wp2_with fail
    refine HP.out.mono ?_
    rintro E w11 ⟨rfl, hb⟩
    have HB11 := Lib.hid ((after HB10.out hb).alloc (Nat.le_trans HB10.out.size hb.size) (S3.eO zE (.slice none 0 0)))
    clear hb
    go_wp2_with fail
    refine (HWk.out _ (HG.out.up HB11.out)).mono ?_
    rintro E w12 ⟨rfl, hb⟩
    have HB12 := Lib.hid (after HB11.out hb)
    clear hb
    go_wp2_with fail
    go_ret
    exact ⟨rfl, HB12.out⟩
end Go.Proofs.YtoldhocdfkndbaaGreatDoor.E5
