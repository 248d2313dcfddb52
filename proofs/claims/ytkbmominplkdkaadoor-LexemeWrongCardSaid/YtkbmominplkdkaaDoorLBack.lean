/-
  LexemeBack: its walk.
-/
import Derived.Test.YtkbmominplkdkaaDoorLPNam
import Derived.Test.YtkbmominplkdkaaDoorLWorks
namespace Go.Proofs.YtkbmominplkdkaaDoor
open Go Go.RowKit Go.Sort

/-- The four cells of a piece. -/
def PcC (W : World) (b o : Nat) (p : Pc) : Prop :=
  W.cell? ⟨b, o, none⟩ = some (.int .u8 (p.k : Int)) ∧ W.cell? ⟨b, o + 1, none⟩ = some (.int .u8 (p.n : Int)) ∧ W.cell? ⟨b, o + 2, none⟩ = some (.int .u8 (p.g : Int)) ∧ W.cell? ⟨b, o + 3, none⟩ = some (.int .u64 (p.b : Int))
theorem PcC.below {W W' : World} {b o : Nat} {p : Pc} (h : PcC W b o p) (hl : b < W.heap.size) (hb : Below W.heap.size W W') : PcC W' b o p :=
  ⟨(hb.cell (p := ⟨b, _, none⟩) hl).trans h.1, (hb.cell (p := ⟨b, _, none⟩) hl).trans h.2.1, (hb.cell (p := ⟨b, _, none⟩) hl).trans h.2.2.1, (hb.cell (p := ⟨b, _, none⟩) hl).trans h.2.2.2⟩
/-- A slice value that reads as these pieces. -/
def Pcs (W : World) (v : Value) (l : List Pc) : Prop :=
  (l = [] ∧ ∃ A c, v = .slice A 0 c) ∨
  (l ≠ [] ∧ ∃ b o c, v = .slice (some ⟨b, o, none⟩) l.length c ∧ b < W.heap.size ∧ ∀ (i : Nat) p, l[i]? = some p → PcC W b (o + i * 4) p)
theorem Pcs.slice {W : World} {v : Value} {l : List Pc} (h : Pcs W v l) : ∃ A c, v = .slice A l.length c := by
  rcases h with ⟨rfl, A, c, rfl⟩ | ⟨_, b, o, c, rfl, _⟩
  · exact ⟨A, c, rfl⟩
  · exact ⟨_, c, rfl⟩
theorem pits_snoc (l : List Pc) (p : Pc) : pits (l ++ [p]) = pits l ++ [⟨gapP p, (tokP p).1, (tokP p).2⟩] := by simp [pits]
theorem txp_snoc (l : List Pc) (p : Pc) : tx (pits (l ++ [p])) [] = tx (pits l) [] ++ (gapP p ++ (tokP p).2) := by
  rw [pits_snoc, tx_append, tx_last]; simp [tx]
theorem wtp_snoc (l : List Pc) (p : Pc) : wt 0 (pits (l ++ [p])) = wt 0 (pits l) ++ [⟨(tokP p).1, (tokP p).2, (tx (pits l) []).length + (gapP p).length⟩] := by
  rw [pits_snoc, wt_append]; simp [wt]

theorem back_long (l : List Pc) (n : Nat) (A : Option Addr) (c : Nat) (hl : 40 < l.length) (w : World) (hG : Glob w) :
    Calls Tryd.prog 5 #[.slice A l.length c, .int .u8 (n : Int)] w fun e w' => e = .returned (.bool true) ∧ Below w.heap.size w w' := by
  have C := Lib.hid (works_calls w hG)
  have d1 : (40 : Int) < (l.length : Int) := by omega
  clear hG
  go_enter Tryd.func5, Tryd.ntmps5
  go_wp2_with fail
  refine C.out.mono ?_
  rintro e w1 ⟨rfl, hb⟩
  have HB := Lib.hid hb
  clear hb
  go_wp2_with fail
  go_ret
  exact ⟨rfl, HB.out⟩

set_option maxRecDepth 100000 in
set_option maxHeartbeats 8000000 in
theorem back_short (l : List Pc) (v : Value) (n : Nat) (hn : n < 256) (hl : l.length ≤ 40) (w : World) (hv : Pcs w v l) (hok : ∀ p ∈ l, OkPc p) (hG : Glob w) :
    Calls Tryd.prog 5 #[v, .int .u8 (n : Int)] w fun e w' => e = .returned (.bool true) ∧ Below w.heap.size w w' := by
  have d1 : ¬ (40 : Int) < (l.length : Int) := by omega
  obtain ⟨i0, hi0, hz0, hz1, hz2⟩ := info_partsT infoTok
  have HI0 := Lib.hid hi0
  have HZ0 := Lib.hid hz0
  have HZ1 := Lib.hid hz1
  have HZ2 := Lib.hid hz2
  have HV := Lib.hid hv
  obtain ⟨A, c, rfl⟩ := hv.slice
  have HG := Lib.hid (fun (W : World) (h : Below w.heap.size w W) => hG.below h)
  have HOK := Lib.hid hok
  clear hG hi0 hz0 hz1 hz2 hv hok
  go_enter Tryd.func5, Tryd.ntmps5
  go_wp2_with fail
  go_loopw [5, 6, 7] (fun j v x wr => ∃ (i : Nat) (J : Bytes), i ≤ l.length ∧ x = .int .i64 i ∧ j = .string (B J) ∧ Hid (J = tx (pits (l.take i)) []) ∧ Hid (wr.ownsRow w.heap.size 32 3 v i (flatT (wt 0 (pits (l.take i))))) ∧ Hid (Below w.heap.size w wr)) (fun _ _ x _ => l.length - (intOf x).toNat)
  case atStart => exact ⟨0, [], by omega, rfl, rfl, Lib.hid rfl, Lib.hid (World.ownsRow_nil _ _ _ _), Lib.hid (Below.refl _ _)⟩
  case round =>
    obtain ⟨i, J, hi, rfl, rfl, HJ, HO, HR⟩ := hrel
    by_cases hlt : i < l.length
    · obtain ⟨p, hip⟩ : ∃ p, l[i]? = some p := ⟨_, List.getElem?_eq_getElem hlt⟩
      rcases HV.out with ⟨h0, _⟩ | ⟨_, b, o, c2, hA, hbl, hc⟩
      · rw [h0] at hlt; simp at hlt
      cases hA
      have hp := HOK.out p (List.mem_of_getElem? hip)
      have hc1 := (hc i p hip).below hbl HR.out
      have hblr : b < wr.heap.size := Nat.lt_of_lt_of_le hbl HR.out.size
      have htake : l.take (i + 1) = l.take i ++ [p] := by rw [List.take_succ_eq_append_getElem hlt, (List.getElem?_eq_some_iff.1 hip).2]
      have HTK := Lib.hid htake
      have CG := fun W => gap_calls p W
      have CT := fun W h => ptok_calls p hp W h
      unfold pcV at CG CT
      have CG := Lib.hid CG
      have CT := Lib.hid CT
      have hJl : J.length ≤ 35 * i := by
        rw [HJ.out]
        have := tx_len (l := l.take i) fun q hq => HOK.out q (List.mem_of_mem_take hq)
        rw [List.length_take, Nat.min_eq_left hi] at this
        exact this
      have hgl := gap_len p
      have htl := tokP_len hp
      have HGP := Lib.hid (wtp_snoc (l.take i) p)
      have HTP := Lib.hid (txp_snoc (l.take i) p)
      obtain ⟨x0, x1, x2, x3⟩ := hc1
      have HC1 := Lib.hid (show PcC wr b (o + i * 4) p from ⟨x0, x1, x2, x3⟩)
      generalize gapP p = g at *
      generalize (tokP p).1 = tk at *
      generalize (tokP p).2 = tt at *
      clear hip hc htake hp
      have e0 : (i : Int) < (l.length : Int) := by omega
      go_wp2_with fail
      refine (CG.out _).mono ?_
      rintro e w2 ⟨rfl, hb2⟩
      obtain ⟨y0, y1, y2, y3⟩ := HC1.out.below hblr hb2
      have B2 := Lib.hid (HR.out.trans (hb2.mono HR.out.size))
      have HO2 := Lib.hid (owns_below HO.out hb2)
      clear x0 x1 x2 x3 hb2 HO HR HC1 CG
      go_wp2_with fail
      refine (CT.out _ (HG.out _ B2.out)).mono ?_
      rintro e w3 ⟨rfl, hb3⟩
      have B3 := Lib.hid (B2.out.trans (hb3.mono B2.out.size))
      have HO3 := Lib.hid (owns_below HO2.out hb3)
      have hz3 := B3.out.size
      clear y0 y1 y2 y3 hb3 HO2 B2 CT
      go_wp2_with (at_builtin; go_loud (refine wpList_append_lies _ rfl (.tmp 34) (.tmp 36) 23 rfl w.heap.size 32 i0 _ 3 32 Tryd.underlying23 HI0.out HZ0.out HZ1.out HZ2.out rfl (by decide) u6 i (flatT (wt 0 (pits (l.take i)))) rfl ((HO3.out.alloc _).alloc _) ⟨w3.heap.size + 1, 0, none⟩ 1 1 [.int .i64 tk, .string (B tt), .int .i64 ((J.length : Int) + (g.length : Int))] rfl rfl (news_new _ _ _ _ (by simp)) (by intro u hu; simp at hu; rcases hu with rfl | rfl | rfl <;> rfl) (by decide) (by unfold maxLen; omega) (by omega) (by simp; omega) _ rfl ?_))
      intro g8 cap w8 hown8 hgr8 hat8 hlt8
      have hlo := HO3.out.lt
      have hg8 := hgr8.size
      have hcell : w8.cell? ⟨w3.heap.size, 1, none⟩ = some (.string (B tt)) := by
        rw [hgr8.cell_far ⟨w3.heap.size, 1, none⟩ (by simp; omega) (fun e => by have := (hlo _ e.symm).2; simp at this)]
        rw [World.cell?_alloc_past _ _ _ (by simp), World.cell?_alloc_at _ _ _ _ rfl]
        rfl
      have B8 := Lib.hid ((((B3.out.alloc B3.out.size _).alloc (by simp; omega) _).grown hgr8 (by simp; omega) (fun j hj => (hlo j hj).1)))
      have HO8 := Lib.hid hown8
      clear hown8 hgr8 hat8 hlo
      go_wp2_with fail
      go_roundw
      case rel =>
        refine ⟨i + 1, J ++ (g ++ tt), by omega, by go_num, ?_, Lib.hid ?_, Lib.hid ?_, B8⟩
        · show Value.string (B J ++ B g ++ B tt) = _
          rw [B_app, B_app, List.append_assoc]
        · rw [HTK.out, HTP.out, ← HJ.out]
        · rw [HTK.out, HGP.out, flatT_snoc, ← HJ.out]
          simpa [tkC] using HO8.out
      case measure => simp [intOf]; omega
    · obtain rfl : i = l.length := by omega
      have e0 : ¬ (l.length : Int) < (l.length : Int) := by omega
      have htk : l.take l.length = l := List.take_length
      have hJ := HJ.out
      have ho := HO.out
      rw [htk] at hJ ho
      have hwl : (wt 0 (pits l)).length = l.length := by rw [wt_length]; simp [pits]
      have HT := Lib.hid (show Toks wr u6 (wt 0 (pits l)) from Toks.of_own (by rw [hwl]; exact ho))
      have hJl : J.length ≤ 1400 := by
        rw [hJ]
        have := tx_len HOK.out
        omega
      have CH : ∀ x ∈ lastsL, ∀ W, Below w.heap.size w W → Toks W u6 (wt 0 (pits l)) → Calls Tryd.prog 18 #[.string (B J ++ B x), u6] W fun e w' => e = .returned (.bool true) ∧ Below W.heap.size W w' := by
        intro x hx W hW hT
        have hxl : x.length ≤ 10 := (show ∀ x ∈ lastsL, x.length ≤ 10 by decide) x hx
        rw [B_app]
        refine hasT ?_ (by rw [List.length_append]; omega) u6 W (HG.out W hW) hT
        rw [hJ, ← tx_last]
        exact scan_pieces HOK.out hx
      clear htk hJ ho hwl HO HJ HOK
      rcases (show n % 5 = 0 ∨ n % 5 = 1 ∨ n % 5 = 2 ∨ n % 5 = 3 ∨ n % 5 = 4 from by omega) with h | h | h | h | h
      · have e1 : (n : Int) % 5 = 0 := by omega
        have e2 : (n : Int).tmod 5 = 0 := by rw [Int.tmod_eq_emod_of_nonneg (by omega)]; exact e1
        have CX := Lib.hid (CH [] (by decide))
        clear h CH
        go_wp2_with fail
        refine (CX.out _ (by exact HR.out.alloc HR.out.size _) (by exact HT.out.below ((Below.refl _ wr).alloc (Nat.le_refl _) _))).mono ?_
        rintro e w4 ⟨rfl, hb⟩
        have B4 := Lib.hid (HR.out.trans ((((Below.refl _ wr).alloc (Nat.le_refl _) _).trans (hb.mono (by simp))).mono HR.out.size))
        clear hb CX
        go_wp2_with fail
        refine (works_calls _ (HG.out _ B4.out)).mono ?_
        rintro e w5 ⟨rfl, hb⟩
        have B5 := Lib.hid (B4.out.trans (hb.mono B4.out.size))
        clear hb
        go_wp2_with fail
        go_ret
        exact ⟨rfl, B5.out⟩
      · have e1 : (n : Int) % 5 = 1 := by omega
        have e2 : (n : Int).tmod 5 = 1 := by rw [Int.tmod_eq_emod_of_nonneg (by omega)]; exact e1
        have CX := Lib.hid (CH [32] (by decide))
        clear h CH
        go_wp2_with fail
        refine (CX.out _ (by exact HR.out.alloc HR.out.size _) (by exact HT.out.below ((Below.refl _ wr).alloc (Nat.le_refl _) _))).mono ?_
        rintro e w4 ⟨rfl, hb⟩
        have B4 := Lib.hid (HR.out.trans ((((Below.refl _ wr).alloc (Nat.le_refl _) _).trans (hb.mono (by simp))).mono HR.out.size))
        clear hb CX
        go_wp2_with fail
        refine (works_calls _ (HG.out _ B4.out)).mono ?_
        rintro e w5 ⟨rfl, hb⟩
        have B5 := Lib.hid (B4.out.trans (hb.mono B4.out.size))
        clear hb
        go_wp2_with fail
        go_ret
        exact ⟨rfl, B5.out⟩
      · have e1 : (n : Int) % 5 = 2 := by omega
        have e2 : (n : Int).tmod 5 = 2 := by rw [Int.tmod_eq_emod_of_nonneg (by omega)]; exact e1
        have CX := Lib.hid (CH [10] (by decide))
        clear h CH
        go_wp2_with fail
        refine (CX.out _ (by exact HR.out.alloc HR.out.size _) (by exact HT.out.below ((Below.refl _ wr).alloc (Nat.le_refl _) _))).mono ?_
        rintro e w4 ⟨rfl, hb⟩
        have B4 := Lib.hid (HR.out.trans ((((Below.refl _ wr).alloc (Nat.le_refl _) _).trans (hb.mono (by simp))).mono HR.out.size))
        clear hb CX
        go_wp2_with fail
        refine (works_calls _ (HG.out _ B4.out)).mono ?_
        rintro e w5 ⟨rfl, hb⟩
        have B5 := Lib.hid (B4.out.trans (hb.mono B4.out.size))
        clear hb
        go_wp2_with fail
        go_ret
        exact ⟨rfl, B5.out⟩
      · have e1 : (n : Int) % 5 = 3 := by omega
        have e2 : (n : Int).tmod 5 = 3 := by rw [Int.tmod_eq_emod_of_nonneg (by omega)]; exact e1
        have CX := Lib.hid (CH [32, 47, 47] (by decide))
        clear h CH
        go_wp2_with fail
        refine (CX.out _ (by exact HR.out.alloc HR.out.size _) (by exact HT.out.below ((Below.refl _ wr).alloc (Nat.le_refl _) _))).mono ?_
        rintro e w4 ⟨rfl, hb⟩
        have B4 := Lib.hid (HR.out.trans ((((Below.refl _ wr).alloc (Nat.le_refl _) _).trans (hb.mono (by simp))).mono HR.out.size))
        clear hb CX
        go_wp2_with fail
        refine (works_calls _ (HG.out _ B4.out)).mono ?_
        rintro e w5 ⟨rfl, hb⟩
        have B5 := Lib.hid (B4.out.trans (hb.mono B4.out.size))
        clear hb
        go_wp2_with fail
        go_ret
        exact ⟨rfl, B5.out⟩
      · have e1 : (n : Int) % 5 = 4 := by omega
        have e2 : (n : Int).tmod 5 = 4 := by rw [Int.tmod_eq_emod_of_nonneg (by omega)]; exact e1
        have CX := Lib.hid (CH [32, 47, 47, 32, 101, 110, 100] (by decide))
        clear h CH
        go_wp2_with fail
        refine (CX.out _ (by exact HR.out.alloc HR.out.size _) (by exact HT.out.below ((Below.refl _ wr).alloc (Nat.le_refl _) _))).mono ?_
        rintro e w4 ⟨rfl, hb⟩
        have B4 := Lib.hid (HR.out.trans ((((Below.refl _ wr).alloc (Nat.le_refl _) _).trans (hb.mono (by simp))).mono HR.out.size))
        clear hb CX
        go_wp2_with fail
        refine (works_calls _ (HG.out _ B4.out)).mono ?_
        rintro e w5 ⟨rfl, hb⟩
        have B5 := Lib.hid (B4.out.trans (hb.mono B4.out.size))
        clear hb
        go_wp2_with fail
        go_ret
        exact ⟨rfl, B5.out⟩
end Go.Proofs.YtkbmominplkdkaaDoor
namespace Go.Proofs.YtkbmominplkdkaaDoor
open Go Go.RowKit
theorem back_law (l : List Pc) (v : Value) (n : Nat) (hn : (n : Int) ≤ 255) (w : World) (hv : Pcs w v l) (hok : ∀ p ∈ l, OkPc p) (hG : Glob w) :
    Calls Tryd.prog 5 #[v, .int .u8 (n : Int)] w fun e w' => e = .returned (.bool true) ∧ Below w.heap.size w w' := by
  rcases Nat.lt_or_ge 40 l.length with h | h
  · obtain ⟨A, c, rfl⟩ := hv.slice
    exact back_long l n A c h w hG
  · exact back_short l v n (by omega) h w hv hok hG
end Go.Proofs.YtkbmominplkdkaaDoor
