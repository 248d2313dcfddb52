/-
  LexemeOrder: its walk where the text is right. Written by gen4_order.py.
-/
import Derived.Test.YtkbmominplkdkaaDoorLOrder
namespace Go.Proofs.YtkbmominplkdkaaDoor
open Go Go.RowKit Go.Sort

theorem B_append (a b : Bytes) : B a ++ B b = B (a ++ b) := by
  apply ByteArray.ext
  rw [ByteArray.data_append]
  simp
set_option maxRecDepth 100000 in
set_option maxHeartbeats 8000000 in
theorem order_ok (s : Bytes) (hl : s.length ≤ 400) (l : List Tk) (hq : scan s = (l, none)) (w : World) (hG : Glob w) :
    Calls Tryd.prog 6 #[.string (B s)] w fun e w' => e = .returned (.bool true) ∧ Below w.heap.size w w' := by
  have d1 : ¬ (400 : Int) < (s.length : Int) := by omega
  obtain ⟨i0, hi0, hz0, hz1, hz2⟩ := info_partsT infoTok
  have HI0 := Lib.hid hi0
  have HZ0 := Lib.hid hz0
  have HZ1 := Lib.hid hz1
  have HZ2 := Lib.hid hz2
  have hsz : (B s).size = s.length := B_size s
  have C1 := Lib.hid (scan_calls s (by omega) w hG)
  have HG := Lib.hid (fun (W : World) (h : Below w.heap.size w W) => hG.below h)
  have HQ := Lib.hid hq
  clear hG hi0 hz0 hz1 hz2
  go_enter Tryd.func6, Tryd.ntmps6
  go_wp2_with fail
  refine C1.out.mono ?_
  rintro e w1 ⟨hb1, h1, h2⟩
  obtain ⟨v, rfl, ho⟩ := h2 (by rw [hq])
  rw [hq] at ho
  have ht := Toks.of_own ho
  have hnl : l.length ≤ 400 := by
    have h0 := ends_ge hq l.length (Nat.le_refl _)
    have h1 := (ord_end hq).1
    omega
  obtain ⟨A, c, rfl⟩ := ht.slice
  have T1 := Lib.hid ht
  have B1 := Lib.hid hb1
  clear hb1 h1 h2 ho ht C1 hq
  go_wp2_with fail
  go_loopw [6, 7, 8, 9] (fun f j v x wr => ∃ (i F : Nat) (J : Bytes), i ≤ l.length + 1 ∧ x = .int .i64 i ∧ f = .int .i64 F ∧ j = .string (B J) ∧ Hid ((i ≤ l.length → F = endT l i) ∧ J = joT (l.take i)) ∧ Hid (wr.ownsRow w1.heap.size 32 3 v (l.take i).length (flatT (woT (l.take i)))) ∧ Hid (Below w1.heap.size w1 wr)) (fun _ _ _ x _ => l.length + 1 - (intOf x).toNat)
  case atStart => exact ⟨0, 0, [], by omega, rfl, rfl, rfl, Lib.hid ⟨fun _ => rfl, rfl⟩, Lib.hid (World.ownsRow_nil _ _ _ _), Lib.hid (Below.refl _ _)⟩
  case round =>
    obtain ⟨i, F, J, hi, rfl, rfl, rfl, HE, HO, HR⟩ := hrel
    rcases Nat.lt_trichotomy i l.length with hlt | heq | hgt
    · obtain ⟨t, hit⟩ : ∃ t, l[i]? = some t := ⟨_, List.getElem?_eq_getElem hlt⟩
      obtain ⟨f1, f2, f3, f4, ⟨p, hp, hpl, hpb⟩, f6, f7⟩ := ord_at HQ.out hit
      have hF := HE.out.1 (Nat.le_of_lt hlt)
      rcases T1.out.below HR.out with ⟨h0, _⟩ | ⟨_, b, o, c2, hA, hbl, hc⟩
      · rw [h0] at hlt; simp at hlt
      cases hA
      have k0 := fun d os => (TkR (hc i t hit) d os).1
      have k1 := fun d os => (TkR (hc i t hit) d os).2.1
      have k2 := fun d os => (TkR (hc i t hit) d os).2.2
      have z2 := (hc i t hit).2.2
      have hbl1 : b < w1.heap.size := by
        rcases T1.out with ⟨h0, _⟩ | ⟨_, b', o', c', hA, hb', _⟩
        · rw [h0] at hlt; simp at hlt
        · cases hA; exact hb'
      have hblz : b < wr.heap.size := hbl
      have htake : l.take (i + 1) = l.take i ++ [t] := by rw [List.take_succ_eq_append_getElem hlt, (List.getElem?_eq_some_iff.1 hit).2]
      obtain ⟨tk, tt, ta⟩ := t
      simp only at k0 k1 k2 z2 f1 f2 f3 f4 f6 f7 hp
      obtain ⟨q, r, rfl⟩ : ∃ q r, tt = q :: r := by
        cases tt with
        | nil => simp at f3
        | cons q r => exact ⟨q, r, rfl⟩
      simp only [List.length_cons] at f2 f4 f6
      rw [← hF] at f1 hp
      have CB := fun W => blank_calls p (by omega) W
      rw [hpb] at CB
      have CB := Lib.hid CB
      have HTK := Lib.hid htake
      have HJ := Lib.hid HE.out.2.symm
      have hmm : (l.take i).length = i := by rw [List.length_take]; omega
      have HM := Lib.hid hmm
      have HEN := Lib.hid f6.symm
      have hJl : J.length ≤ 2 * F := by rw [HE.out.2, hF]; exact joT_len HQ.out i (Nat.le_of_lt hlt)
      rw [hmm] at HO
      have e1 : ¬ (ta : Int) < (F : Int) := by omega
      have e1' : ¬ ta < F := by omega
      have e2 : IntKind.i64.wrap ((ta : Int) + ((r.length : Int) + 1)) = (ta : Int) + ((r.length : Int) + 1) := IntWalk.i64_in _ (by omega)
      have e3 : ¬ (s.length : Int) < (ta : Int) + ((r.length : Int) + 1) := by omega
      have e4 : (0 : Int) ≤ (ta : Int) := by omega
      have e5 : (ta : Int) ≤ (ta : Int) + ((r.length : Int) + 1) := by omega
      have e6 : (ta : Int) + ((r.length : Int) + 1) ≤ (s.length : Int) := by omega
      have e7 : ((ta : Int) + ((r.length : Int) + 1)).toNat = ta + (r.length + 1) := by omega
      have e8 : (0 : Int) ≤ (F : Int) := by omega
      have e9 : (F : Int) ≤ (ta : Int) := by omega
      have e10 : (ta : Int) ≤ (s.length : Int) := by omega
      have e11 : (i : Int) < (l.length : Int) := by omega
      have e12 : (i : Int) ≤ (l.length : Int) := by omega
      clear hc f7 hF HE hmm hpb hit htake f6 f3
      by_cases hi0 : i = 0
      · have HI := Lib.hid hi0
        clear hi0
        have e13 : ¬ (0 : Int) < (i : Int) := by have := HI.out; omega
        go_wp2_with fail
        refine wp_region_quiet_below (by kernel_rfl) (by kernel_rfl) ?_
        repeat (first | go_big_quiet_step (fail) | quiet_step (fail))
        refine wpQuiet_nil ?_
        intro _ hw'
        obtain ⟨⟨dq, osq⟩, hw''⟩ := hw'
        subst hw''
        have hz := below_regrown wr dq osq
        have HR2 := Lib.hid (HR.out.trans (hz.mono HR.out.size))
        have HO2 := Lib.hid (owns_below HO.out hz)
        have y0 := k0 dq osq
        have y1 := k1 dq osq
        have hblz := Nat.lt_of_lt_of_le hblz hz.size
        clear k0 k1 k2 hz HO HR
        generalize grow (redrawn wr dq) osq = wz at *
        have HO3 := Lib.hid (owns_below (w' := wz.drew) HO2.out ⟨rfl, rfl, rfl, Nat.le_refl _, fun _ _ => rfl⟩)
        have HR3 := Lib.hid (HR2.out.trans (show Below w1.heap.size wz wz.drew from ⟨rfl, rfl, rfl, Nat.le_refl _, fun _ _ => rfl⟩))
        go_wp2_with fail
        refine (CB.out _).mono ?_
        rintro e w3 ⟨rfl, rfl⟩
        go_wp2_with fail
        go_region_law (refine step_append_lies _ (by rfl) _ _ _ (by rfl) w1.heap.size 32 i0 _ 3 32 Tryd.underlying23 HI0.out HZ0.out HZ1.out HZ2.out rfl (by omega) u8 i (flatT (woT (l.take i))) (by rfl) (by first | exact HO3.out.alloc _ | exact HO2.out.alloc _ | exact owns_below (HO2.out.alloc _) ⟨rfl, rfl, rfl, Nat.le_refl _, fun _ _ => rfl⟩) ⟨wz.heap.size, 0, none⟩ 1 1 [.int .i64 tk, .string (B (q :: r)), .int .i64 ((J.length : Int))] (by rfl) (by rfl) (news_new _ _ _ _ rfl) (by intro u hu; simp at hu; rcases hu with rfl | rfl | rfl <;> rfl) (by omega) (by unfold maxLen; omega) (by omega) (by have := HR2.out.size; simp; omega) _ rfl ?_; intro g cap w8 hown8 hgr8 hat8 hlt8; have hlo := HO2.out.lt; have hg8 := hgr8.size; have y8 : w8.cell? ⟨b, o + i * 3 + 1, none⟩ = some (.string (B (q :: r))) := ((hgr8.cell_far ⟨b, o + i * 3 + 1, none⟩ (by simp; omega) (fun e => by have := (hlo _ e.symm).1; simp at this; omega)).trans (World.cell?_alloc_past _ _ _ hblz)).trans y1; have HB8 := Lib.hid (show Below w1.heap.size w1 w8 by first | exact ((HR3.out.alloc HR3.out.size _).grown hgr8 (by have := HR3.out.size; simp at this ⊢; omega) (fun j hj => (hlo j hj).1)) | exact ((HR2.out.alloc HR2.out.size _).grown hgr8 (by have := HR2.out.size; simp; omega) (fun j hj => (hlo j hj).1))); have HO8 := Lib.hid hown8; clear hown8 hgr8 hat8 hlo)
        all_goals
          go_wp2_with fail
          go_roundw
          case rel =>
            refine ⟨i + 1, ta + (r.length + 1), J ++ (q :: r), by omega, by go_num, by go_num, ?_, Lib.hid ⟨fun _ => ?_, ?_⟩, Lib.hid ?_, HB8⟩
            · show Value.string _ = _
              simp only [B_append]
              try rw [show (⟨#[32]⟩ : ByteArray) = B [32] from rfl]
              try simp only [B_append]
            · exact HEN.out
            · rw [HTK.out, joT_snoc, HJ.out, HM.out]; rw [if_pos HI.out]
            · rw [HTK.out, List.length_append, woT_snoc, flatT_snoc, HJ.out, HM.out]
              rw [if_pos HI.out]
              simpa [tkC] using HO8.out
          case measure => simp [intOf]; omega
      · have e13 : (0 : Int) < (i : Int) := by omega
        go_wp2_with fail
        refine wp_region_quiet_below (by kernel_rfl) (by kernel_rfl) ?_
        repeat (first | go_big_quiet_step (fail) | quiet_step (fail))
        refine wpQuiet_nil ?_
        intro _ hw'
        obtain ⟨⟨dq, osq⟩, hw''⟩ := hw'
        subst hw''
        have hz := below_regrown wr dq osq
        have HR2 := Lib.hid (HR.out.trans (hz.mono HR.out.size))
        have HO2 := Lib.hid (owns_below HO.out hz)
        have y0 := k0 dq osq
        have y1 := k1 dq osq
        have hblz := Nat.lt_of_lt_of_le hblz hz.size
        clear k0 k1 k2 hz HO HR
        generalize grow (redrawn wr dq) osq = wz at *
        have HO3 := Lib.hid (owns_below (w' := wz.drew) HO2.out ⟨rfl, rfl, rfl, Nat.le_refl _, fun _ _ => rfl⟩)
        have HR3 := Lib.hid (HR2.out.trans (show Below w1.heap.size wz wz.drew from ⟨rfl, rfl, rfl, Nat.le_refl _, fun _ _ => rfl⟩))
        go_wp2_with fail
        refine (CB.out _).mono ?_
        rintro e w3 ⟨rfl, rfl⟩
        go_wp2_with fail
        go_region_law (refine step_append_lies _ (by rfl) _ _ _ (by rfl) w1.heap.size 32 i0 _ 3 32 Tryd.underlying23 HI0.out HZ0.out HZ1.out HZ2.out rfl (by omega) u8 i (flatT (woT (l.take i))) (by rfl) (by first | exact HO3.out.alloc _ | exact HO2.out.alloc _ | exact owns_below (HO2.out.alloc _) ⟨rfl, rfl, rfl, Nat.le_refl _, fun _ _ => rfl⟩) ⟨wz.heap.size, 0, none⟩ 1 1 [.int .i64 tk, .string (B (q :: r)), .int .i64 ((J.length : Int) + 1)] (by rfl) (by rfl) (news_new _ _ _ _ rfl) (by intro u hu; simp at hu; rcases hu with rfl | rfl | rfl <;> rfl) (by omega) (by unfold maxLen; omega) (by omega) (by have := HR2.out.size; simp; omega) _ rfl ?_; intro g cap w8 hown8 hgr8 hat8 hlt8; have hlo := HO2.out.lt; have hg8 := hgr8.size; have y8 : w8.cell? ⟨b, o + i * 3 + 1, none⟩ = some (.string (B (q :: r))) := ((hgr8.cell_far ⟨b, o + i * 3 + 1, none⟩ (by simp; omega) (fun e => by have := (hlo _ e.symm).1; simp at this; omega)).trans (World.cell?_alloc_past _ _ _ hblz)).trans y1; have HB8 := Lib.hid (show Below w1.heap.size w1 w8 by first | exact ((HR3.out.alloc HR3.out.size _).grown hgr8 (by have := HR3.out.size; simp at this ⊢; omega) (fun j hj => (hlo j hj).1)) | exact ((HR2.out.alloc HR2.out.size _).grown hgr8 (by have := HR2.out.size; simp; omega) (fun j hj => (hlo j hj).1))); have HO8 := Lib.hid hown8; clear hown8 hgr8 hat8 hlo)
        all_goals
          go_wp2_with fail
          go_roundw
          case rel =>
            refine ⟨i + 1, ta + (r.length + 1), (J ++ [32]) ++ (q :: r), by omega, by go_num, by go_num, ?_, Lib.hid ⟨fun _ => ?_, ?_⟩, Lib.hid ?_, HB8⟩
            · show Value.string _ = _
              simp only [B_append]
              try rw [show (⟨#[32]⟩ : ByteArray) = B [32] from rfl]
              try simp only [B_append]
            · exact HEN.out
            · rw [HTK.out, joT_snoc, HJ.out, HM.out]; rw [if_neg hi0]
            · rw [HTK.out, List.length_append, woT_snoc, flatT_snoc, HJ.out, HM.out]
              rw [if_neg hi0]
              simpa [tkC] using HO8.out
          case measure => simp [intOf]; omega
    · subst heq
      obtain ⟨f1, p, hp, hpl, hpb⟩ := ord_end HQ.out
      have hF := HE.out.1 (Nat.le_refl _)
      rw [← hF] at f1 hp
      have CB := fun W => blank_calls p (by omega) W
      rw [hpb] at CB
      have CB := Lib.hid CB
      have e8 : (0 : Int) ≤ (F : Int) := by omega
      have e9 : (F : Int) ≤ (s.length : Int) := by omega
      have e11 : ¬ (l.length : Int) < (l.length : Int) := by omega
      have HJ := Lib.hid HE.out.2
      clear hpb hF HE
      go_wp2_with fail
      refine (CB.out _).mono ?_
      rintro e w3 ⟨rfl, rfl⟩
      go_wp2_with fail
      go_roundw
      case rel =>
        refine ⟨l.length + 1, F, J, by omega, by go_num, rfl, rfl, Lib.hid ⟨fun h => absurd h (by omega), ?_⟩, Lib.hid ?_, HR⟩
        · have h9 : l.take (l.length + 1) = l := List.take_of_length_le (Nat.le_succ _)
          have h8 := HJ.out
          rw [List.take_of_length_le (Nat.le_refl _)] at h8
          rw [h9]; exact h8
        · have := HO.out
          rw [List.take_of_length_le (Nat.le_refl _)] at this
          rw [List.take_of_length_le (by omega)]
          exact this
      case measure => simp [intOf] <;> omega
    · obtain rfl : i = l.length + 1 := by omega
      have htk : l.take (l.length + 1) = l := List.take_of_length_le (by omega)
      have hJ := HE.out.2
      have ho := HO.out
      rw [htk] at hJ ho
      have ht : Toks wr u8 (woT l) := Toks.of_own (by rw [woT_len]; exact ho)
      have hJl : J.length ≤ 1000000 := by
        have h0 := joT_len HQ.out l.length (Nat.le_refl _)
        have h1 := (ord_end HQ.out).1
        rw [List.take_of_length_le (Nat.le_refl _), ← hJ] at h0
        omega
      have B3 := Lib.hid (B1.out.trans (HR.out.mono B1.out.size))
      have CH := has_calls J hJl (woT l) u8 wr (HG.out _ B3.out) ht
      rw [decide_eq_true (by rw [hJ]; exact scan_jo (toks_all HQ.out))] at CH
      have CH := Lib.hid CH
      have e12 : ¬ ((l.length : Int) + 1 ≤ (l.length : Int)) := by omega
      clear htk hJ ho ht HE HO
      go_wp2_with fail
      refine CH.out.mono ?_
      rintro e w4 ⟨rfl, hb⟩
      have B4 := Lib.hid (B3.out.trans (hb.mono B3.out.size))
      clear hb CH
      go_wp2_with fail
      refine (works_calls _ (HG.out _ B4.out)).mono ?_
      rintro e w5 ⟨rfl, hb⟩
      have B5 := Lib.hid (B4.out.trans (hb.mono B4.out.size))
      clear hb
      go_wp2_with fail
      go_ret
      exact ⟨rfl, B5.out⟩
end Go.Proofs.YtkbmominplkdkaaDoor
namespace Go.Proofs.YtkbmominplkdkaaDoor.order
open Go Go.RowKit
theorem law (s : ByteArray) (_hm : s.size ≤ 9223372036854775807) (w : World) (hG : Glob w) :
    Calls Tryd.prog 6 #[.string s] w fun e w' => e = .returned (.bool true) ∧ Below w.heap.size w w' := by
  rcases Nat.lt_or_ge 400 s.data.toList.length with h | h
  · exact order_long s.data.toList h w hG
  · cases hq : scan s.data.toList with
    | mk l o =>
      cases o with
      | none => exact order_ok s.data.toList h l hq w hG
      | some a => exact order_err s.data.toList h a (by rw [hq]) w hG
end Go.Proofs.YtkbmominplkdkaaDoor.order
