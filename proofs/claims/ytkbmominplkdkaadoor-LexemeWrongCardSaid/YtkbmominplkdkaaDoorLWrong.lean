/-
  LexemeWrong: its walk. Written by gen4_wrong.py.
-/
import Derived.Test.YtkbmominplkdkaaDoorLBack
import Derived.Test.YtkbmominplkdkaaDoorLBad
import Derived.BigRegion
import Derived.Deep.RegionWith
namespace Go.Proofs.YtkbmominplkdkaaDoor
open Go Go.RowKit Go.Sort

theorem run_tokText (W : World) (k a : Int) (t : ByteArray) : (Instr.field 32 (.agg #[.int .i64 k, .string t, .int .i64 a]) 1).run Tryd.prog W = .ok (.string t) W := by kernel_rfl
theorem wrong_long (l : List Pc) (m : Bytes) (n : Nat) (A : Option Addr) (c : Nat) (hl : 20 < l.length ∨ 100 < m.length) (w : World) (hG : Glob w) :
    Calls Tryd.prog 7 #[.slice A l.length c, .string (B m), .int .u8 (n : Int)] w fun e w' => e = .returned (.bool true) ∧ Below w.heap.size w w' := by
  have C := Lib.hid (works_calls w hG)
  clear hG
  by_cases h20 : 20 < l.length
  · have d1 : (20 : Int) < (l.length : Int) := by omega
    go_enter Tryd.func7, Tryd.ntmps7
    go_wp2_with fail
    refine C.out.mono ?_
    rintro e w1 ⟨rfl, hb⟩
    have HB := Lib.hid hb
    clear hb
    go_wp2_with fail
    go_ret
    exact ⟨rfl, HB.out⟩
  · have d1 : ¬ (20 : Int) < (l.length : Int) := by omega
    have d2 : (100 : Int) < (m.length : Int) := by omega
    go_enter Tryd.func7, Tryd.ntmps7
    go_wp2_with fail
    refine C.out.mono ?_
    rintro e w1 ⟨rfl, hb⟩
    have HB := Lib.hid hb
    clear hb
    go_wp2_with fail
    go_ret
    exact ⟨rfl, HB.out⟩

set_option maxRecDepth 100000 in
set_option maxHeartbeats 16000000 in
theorem wrong_short (l : List Pc) (v : Value) (m : Bytes) (n : Nat) (hn : n < 256) (hl : l.length ≤ 20) (hm : m.length ≤ 100) (w : World) (hv : Pcs w v l) (hok : ∀ p ∈ l, OkPc p) (hG : Glob w) :
    Calls Tryd.prog 7 #[v, .string (B m), .int .u8 (n : Int)] w fun e w' => e = .returned (.bool true) ∧ Below w.heap.size w w' := by
  have d1 : ¬ (20 : Int) < (l.length : Int) := by omega
  have d2 : ¬ (100 : Int) < (m.length : Int) := by omega
  have HV := Lib.hid hv
  obtain ⟨A, c, rfl⟩ := hv.slice
  have HG := Lib.hid (fun (W : World) (h : Below w.heap.size w W) => hG.below h)
  have HOK := Lib.hid hok
  clear hG hv hok
  go_enter Tryd.func7, Tryd.ntmps7
  go_wp2_with fail
  go_loopw [7, 8] (fun j x wr => ∃ (i : Nat) (J : Bytes), i ≤ l.length ∧ x = .int .i64 i ∧ j = .string (B J) ∧ Hid (J = tx (pits (l.take i)) []) ∧ Hid (Below w.heap.size w wr)) (fun _ x _ => l.length - (intOf x).toNat)
  case atStart => exact ⟨0, [], by omega, rfl, rfl, Lib.hid rfl, Lib.hid (Below.refl _ _)⟩
  case round =>
    obtain ⟨i, J, hi, rfl, rfl, HJ, HR⟩ := hrel
    by_cases hlt : i < l.length
    · obtain ⟨p, hip⟩ : ∃ p, l[i]? = some p := ⟨_, List.getElem?_eq_getElem hlt⟩
      rcases HV.out with ⟨h0, _⟩ | ⟨_, b, o, c2, hA, hbl, hc⟩
      · rw [h0] at hlt; simp at hlt
      cases hA
      have hp := HOK.out p (List.mem_of_getElem? hip)
      have hc1 := (hc i p hip).below hbl HR.out
      have hblr : b < wr.heap.size := Nat.lt_of_lt_of_le hbl HR.out.size
      have htake : l.take (i + 1) = l.take i ++ [p] := by rw [List.take_succ_eq_append_getElem hlt, (List.getElem?_eq_some_iff.1 hip).2]
      have HTK := Lib.hid htake
      have CG := fun W => gap_calls p W
      have CT := fun W h => ptok_calls p hp W h
      unfold pcV at CG CT
      have CG := Lib.hid CG
      have CT := Lib.hid CT
      have hJl : J.length ≤ 35 * i := by
        rw [HJ.out]
        have := tx_len (l := l.take i) fun q hq => HOK.out q (List.mem_of_mem_take hq)
        rw [List.length_take, Nat.min_eq_left hi] at this
        exact this
      have hgl := gap_len p
      have htl := tokP_len hp
      have HTP := Lib.hid (txp_snoc (l.take i) p)
      obtain ⟨x0, x1, x2, x3⟩ := hc1
      have HC1 := Lib.hid (show PcC wr b (o + i * 4) p from ⟨x0, x1, x2, x3⟩)
      generalize gapP p = g at *
      generalize (tokP p).1 = tk at *
      generalize (tokP p).2 = tt at *
      clear hip hc htake hp
      have e0 : (i : Int) < (l.length : Int) := by omega
      have hrf := fun W => run_tokText W tk 0 (B tt)
      go_wp2_with fail
      go_region_with (first | (go_at_call 16; refine (CG.out _).mono ?_; rintro e w2 ⟨rfl, hb2⟩; have hb2 : Below wr.heap.size wr w2 := ⟨hb2.os, hb2.tape, hb2.output, hb2.size, hb2.block⟩; obtain ⟨y0, y1, y2, y3⟩ := HC1.out.below hblr hb2; have B2 := Lib.hid (HR.out.trans (hb2.mono HR.out.size)); clear hb2) | (go_at_call 17; refine (CT.out _ (HG.out _ (by first | exact B2.out | exact B2.out.trans ⟨rfl, rfl, rfl, Nat.le_refl _, fun _ _ => rfl⟩))).mono ?_; rintro e w3 ⟨rfl, hb3⟩; have B3 := Lib.hid (B2.out.trans (Below.mono (show Below w2.heap.size w2 w3 from ⟨hb3.os, hb3.tape, hb3.output, hb3.size, hb3.block⟩) B2.out.size)); clear hb3))
      all_goals
        go_wp2_with fail
        go_roundw
        case rel =>
          refine ⟨i + 1, J ++ (g ++ tt), by omega, by go_num, ?_, Lib.hid ?_, B3⟩
          · show Value.string (B J ++ B g ++ B tt) = _
            rw [B_app, B_app, List.append_assoc]
          · rw [HTK.out, HTP.out, ← HJ.out]
        case measure => simp [intOf]; omega
    · obtain rfl : i = l.length := by omega
      have e0 : ¬ (l.length : Int) < (l.length : Int) := by omega
      have hJ := HJ.out
      rw [List.take_length] at hJ
      have hJl : J.length ≤ 700 := by
        rw [hJ]
        have := tx_len HOK.out
        omega
      have CW : ∀ b : Bytes, b.length ≤ 30 → BadX (b ++ m) → ∀ W, Below w.heap.size w W → Calls Tryd.prog 20 #[.string (B (((J ++ [10]) ++ b) ++ m)), .int .i64 ((J.length : Int) + 1)] W fun e w' => e = .returned (.bool true) ∧ Below W.heap.size W w' := by
        intro b hb hx W hW
        have hs := scan_bad (pits_ok HOK.out) (pits_sep l) hx.1 hx.2.1 hx.2.2
        have ht : tx (pits l) (10 :: (b ++ m)) = ((J ++ [10]) ++ b) ++ m := by rw [tx_last, ← hJ]; simp
        rw [ht] at hs
        have hlen : (((J ++ [10]) ++ b) ++ m).length - (b ++ m).length = J.length + 1 := by simp only [List.length_append, List.length_cons, List.length_nil]; omega
        rw [hlen] at hs
        have := wrongT hs (by simp only [List.length_append, List.length_cons, List.length_nil]; omega) W (HG.out W hW)
        rw [show (((J.length + 1 : Nat)) : Int) = (J.length : Int) + 1 by push_cast; rfl] at this
        exact this
      clear hJ HJ HOK HV
      obtain ⟨r, hr⟩ : ∃ r, r = n % 20 := ⟨_, rfl⟩
      have hr20 : r < 20 := by omega
      have e1 : (n : Int) % 20 = (r : Int) := by omega
      have e2 : (n : Int).tmod 20 = (r : Int) := by rw [Int.tmod_eq_emod_of_nonneg (by omega)]; exact e1
      have e3 : wrap64 (n : Int) = (n : Int) := IntWalk.wrap64_in _ (by omega)
      clear hr
      rcases (show r = 0 ∨ r = 1 ∨ r = 2 ∨ r = 3 ∨ r = 4 ∨ r = 5 ∨ r = 6 ∨ r = 7 ∨ r = 8 ∨ r = 9 ∨ r = 10 ∨ r = 11 ∨ r = 12 ∨ r = 13 ∨ r = 14 ∨ r = 15 ∨ r = 16 ∨ r = 17 ∨ r = 18 ∨ r = 19 from by omega) with rfl | rfl | rfl | rfl | rfl | rfl | rfl | rfl | rfl | rfl | rfl | rfl | rfl | rfl | rfl | rfl | rfl | rfl | rfl | rfl
      · have CX := CW [36] (by decide) (bad_0 m)
        rw [← B_app, ← B_app, ← B_app] at CX
        have CX := Lib.hid CX
        clear CW
        go_wp2_with fail
        refine (CX.out _ (HR.out.alloc HR.out.size _)).mono ?_
        rintro e w4 ⟨rfl, hb⟩
        have B4 := Lib.hid (HR.out.trans ((((Below.refl _ wr).alloc (Nat.le_refl _) _).trans (hb.mono (by simp))).mono HR.out.size))
        clear hb CX
        go_wp2_with fail
        refine (works_calls _ (HG.out _ B4.out)).mono ?_
        rintro e w5 ⟨rfl, hb⟩
        have B5 := Lib.hid (B4.out.trans (hb.mono B4.out.size))
        clear hb
        go_wp2_with fail
        go_ret
        exact ⟨rfl, B5.out⟩
      · have CX := CW [0] (by decide) (bad_1 m)
        rw [← B_app, ← B_app, ← B_app] at CX
        have CX := Lib.hid CX
        clear CW
        go_wp2_with fail
        refine (CX.out _ (HR.out.alloc HR.out.size _)).mono ?_
        rintro e w4 ⟨rfl, hb⟩
        have B4 := Lib.hid (HR.out.trans ((((Below.refl _ wr).alloc (Nat.le_refl _) _).trans (hb.mono (by simp))).mono HR.out.size))
        clear hb CX
        go_wp2_with fail
        refine (works_calls _ (HG.out _ B4.out)).mono ?_
        rintro e w5 ⟨rfl, hb⟩
        have B5 := Lib.hid (B4.out.trans (hb.mono B4.out.size))
        clear hb
        go_wp2_with fail
        go_ret
        exact ⟨rfl, B5.out⟩
      · have CX := CW ([38] ++ [32]) (by decide) (bad_2 m)
        rw [← B_app, ← B_app, ← B_app, ← B_app] at CX
        have CX := Lib.hid CX
        clear CW
        go_wp2_with fail
        refine (CX.out _ (HR.out.alloc HR.out.size _)).mono ?_
        rintro e w4 ⟨rfl, hb⟩
        have B4 := Lib.hid (HR.out.trans ((((Below.refl _ wr).alloc (Nat.le_refl _) _).trans (hb.mono (by simp))).mono HR.out.size))
        clear hb CX
        go_wp2_with fail
        refine (works_calls _ (HG.out _ B4.out)).mono ?_
        rintro e w5 ⟨rfl, hb⟩
        have B5 := Lib.hid (B4.out.trans (hb.mono B4.out.size))
        clear hb
        go_wp2_with fail
        go_ret
        exact ⟨rfl, B5.out⟩
      · have CX := CW ([124] ++ [32]) (by decide) (bad_3 m)
        rw [← B_app, ← B_app, ← B_app, ← B_app] at CX
        have CX := Lib.hid CX
        clear CW
        go_wp2_with fail
        refine (CX.out _ (HR.out.alloc HR.out.size _)).mono ?_
        rintro e w4 ⟨rfl, hb⟩
        have B4 := Lib.hid (HR.out.trans ((((Below.refl _ wr).alloc (Nat.le_refl _) _).trans (hb.mono (by simp))).mono HR.out.size))
        clear hb CX
        go_wp2_with fail
        refine (works_calls _ (HG.out _ B4.out)).mono ?_
        rintro e w5 ⟨rfl, hb⟩
        have B5 := Lib.hid (B4.out.trans (hb.mono B4.out.size))
        clear hb
        go_wp2_with fail
        go_ret
        exact ⟨rfl, B5.out⟩
      · have CX := CW [34] (by decide) (bad_4 m)
        rw [← B_app, ← B_app, ← B_app] at CX
        have CX := Lib.hid CX
        clear CW
        go_wp2_with fail
        refine (CX.out _ (HR.out.alloc HR.out.size _)).mono ?_
        rintro e w4 ⟨rfl, hb⟩
        have B4 := Lib.hid (HR.out.trans ((((Below.refl _ wr).alloc (Nat.le_refl _) _).trans (hb.mono (by simp))).mono HR.out.size))
        clear hb CX
        go_wp2_with fail
        refine (works_calls _ (HG.out _ B4.out)).mono ?_
        rintro e w5 ⟨rfl, hb⟩
        have B5 := Lib.hid (B4.out.trans (hb.mono B4.out.size))
        clear hb
        go_wp2_with fail
        go_ret
        exact ⟨rfl, B5.out⟩
      · have CX := CW [39] (by decide) (bad_5 m)
        rw [← B_app, ← B_app, ← B_app] at CX
        have CX := Lib.hid CX
        clear CW
        go_wp2_with fail
        refine (CX.out _ (HR.out.alloc HR.out.size _)).mono ?_
        rintro e w4 ⟨rfl, hb⟩
        have B4 := Lib.hid (HR.out.trans ((((Below.refl _ wr).alloc (Nat.le_refl _) _).trans (hb.mono (by simp))).mono HR.out.size))
        clear hb CX
        go_wp2_with fail
        refine (works_calls _ (HG.out _ B4.out)).mono ?_
        rintro e w5 ⟨rfl, hb⟩
        have B5 := Lib.hid (B4.out.trans (hb.mono B4.out.size))
        clear hb
        go_wp2_with fail
        go_ret
        exact ⟨rfl, B5.out⟩
      · have CX := CW [95] (by decide) (bad_6 m)
        rw [← B_app, ← B_app, ← B_app] at CX
        have CX := Lib.hid CX
        clear CW
        go_wp2_with fail
        refine (CX.out _ (HR.out.alloc HR.out.size _)).mono ?_
        rintro e w4 ⟨rfl, hb⟩
        have B4 := Lib.hid (HR.out.trans ((((Below.refl _ wr).alloc (Nat.le_refl _) _).trans (hb.mono (by simp))).mono HR.out.size))
        clear hb CX
        go_wp2_with fail
        refine (works_calls _ (HG.out _ B4.out)).mono ?_
        rintro e w5 ⟨rfl, hb⟩
        have B5 := Lib.hid (B4.out.trans (hb.mono B4.out.size))
        clear hb
        go_wp2_with fail
        go_ret
        exact ⟨rfl, B5.out⟩
      · have CX := CW ([48, 48] ++ [32]) (by decide) (bad_7 m)
        rw [← B_app, ← B_app, ← B_app, ← B_app] at CX
        have CX := Lib.hid CX
        clear CW
        go_wp2_with fail
        refine (CX.out _ (HR.out.alloc HR.out.size _)).mono ?_
        rintro e w4 ⟨rfl, hb⟩
        have B4 := Lib.hid (HR.out.trans ((((Below.refl _ wr).alloc (Nat.le_refl _) _).trans (hb.mono (by simp))).mono HR.out.size))
        clear hb CX
        go_wp2_with fail
        refine (works_calls _ (HG.out _ B4.out)).mono ?_
        rintro e w5 ⟨rfl, hb⟩
        have B5 := Lib.hid (B4.out.trans (hb.mono B4.out.size))
        clear hb
        go_wp2_with fail
        go_ret
        exact ⟨rfl, B5.out⟩
      · have CX := CW ([48, 49] ++ [32]) (by decide) (bad_8 m)
        rw [← B_app, ← B_app, ← B_app, ← B_app] at CX
        have CX := Lib.hid CX
        clear CW
        go_wp2_with fail
        refine (CX.out _ (HR.out.alloc HR.out.size _)).mono ?_
        rintro e w4 ⟨rfl, hb⟩
        have B4 := Lib.hid (HR.out.trans ((((Below.refl _ wr).alloc (Nat.le_refl _) _).trans (hb.mono (by simp))).mono HR.out.size))
        clear hb CX
        go_wp2_with fail
        refine (works_calls _ (HG.out _ B4.out)).mono ?_
        rintro e w5 ⟨rfl, hb⟩
        have B5 := Lib.hid (B4.out.trans (hb.mono B4.out.size))
        clear hb
        go_wp2_with fail
        go_ret
        exact ⟨rfl, B5.out⟩
      · have CX := CW [49, 97] (by decide) (bad_9 m)
        rw [← B_app, ← B_app, ← B_app] at CX
        have CX := Lib.hid CX
        clear CW
        go_wp2_with fail
        refine (CX.out _ (HR.out.alloc HR.out.size _)).mono ?_
        rintro e w4 ⟨rfl, hb⟩
        have B4 := Lib.hid (HR.out.trans ((((Below.refl _ wr).alloc (Nat.le_refl _) _).trans (hb.mono (by simp))).mono HR.out.size))
        clear hb CX
        go_wp2_with fail
        refine (works_calls _ (HG.out _ B4.out)).mono ?_
        rintro e w5 ⟨rfl, hb⟩
        have B5 := Lib.hid (B4.out.trans (hb.mono B4.out.size))
        clear hb
        go_wp2_with fail
        go_ret
        exact ⟨rfl, B5.out⟩
      · have CX := CW [49, 95] (by decide) (bad_10 m)
        rw [← B_app, ← B_app, ← B_app] at CX
        have CX := Lib.hid CX
        clear CW
        go_wp2_with fail
        refine (CX.out _ (HR.out.alloc HR.out.size _)).mono ?_
        rintro e w4 ⟨rfl, hb⟩
        have B4 := Lib.hid (HR.out.trans ((((Below.refl _ wr).alloc (Nat.le_refl _) _).trans (hb.mono (by simp))).mono HR.out.size))
        clear hb CX
        go_wp2_with fail
        refine (works_calls _ (HG.out _ B4.out)).mono ?_
        rintro e w5 ⟨rfl, hb⟩
        have B5 := Lib.hid (B4.out.trans (hb.mono B4.out.size))
        clear hb
        go_wp2_with fail
        go_ret
        exact ⟨rfl, B5.out⟩
      · have CX := CW [57, 50, 50, 51, 51, 55, 50, 48, 51, 54, 56, 53, 52, 55, 55, 53, 56, 48, 56] (by decide) (bad_11 m)
        rw [← B_app, ← B_app, ← B_app] at CX
        have CX := Lib.hid CX
        clear CW
        go_wp2_with fail
        refine (CX.out _ (HR.out.alloc HR.out.size _)).mono ?_
        rintro e w4 ⟨rfl, hb⟩
        have B4 := Lib.hid (HR.out.trans ((((Below.refl _ wr).alloc (Nat.le_refl _) _).trans (hb.mono (by simp))).mono HR.out.size))
        clear hb CX
        go_wp2_with fail
        refine (works_calls _ (HG.out _ B4.out)).mono ?_
        rintro e w5 ⟨rfl, hb⟩
        have B5 := Lib.hid (B4.out.trans (hb.mono B4.out.size))
        clear hb
        go_wp2_with fail
        go_ret
        exact ⟨rfl, B5.out⟩
      · have CX := CW [49, 48, 48, 48, 48, 48, 48, 48, 48, 48, 48, 48, 48, 48, 48, 48, 48, 48, 48, 48] (by decide) (bad_12 m)
        rw [← B_app, ← B_app, ← B_app] at CX
        have CX := Lib.hid CX
        clear CW
        go_wp2_with fail
        refine (CX.out _ (HR.out.alloc HR.out.size _)).mono ?_
        rintro e w4 ⟨rfl, hb⟩
        have B4 := Lib.hid (HR.out.trans ((((Below.refl _ wr).alloc (Nat.le_refl _) _).trans (hb.mono (by simp))).mono HR.out.size))
        clear hb CX
        go_wp2_with fail
        refine (works_calls _ (HG.out _ B4.out)).mono ?_
        rintro e w5 ⟨rfl, hb⟩
        have B5 := Lib.hid (B4.out.trans (hb.mono B4.out.size))
        clear hb
        go_wp2_with fail
        go_ret
        exact ⟨rfl, B5.out⟩
      · have CX := CW [97, 98, 99, 100, 101, 102, 103, 104, 105, 106, 107, 108, 109, 110, 111, 112, 113] (by decide) (bad_13 m)
        rw [← B_app, ← B_app, ← B_app] at CX
        have CX := Lib.hid CX
        clear CW
        go_wp2_with fail
        refine (CX.out _ (HR.out.alloc HR.out.size _)).mono ?_
        rintro e w4 ⟨rfl, hb⟩
        have B4 := Lib.hid (HR.out.trans ((((Below.refl _ wr).alloc (Nat.le_refl _) _).trans (hb.mono (by simp))).mono HR.out.size))
        clear hb CX
        go_wp2_with fail
        refine (works_calls _ (HG.out _ B4.out)).mono ?_
        rintro e w5 ⟨rfl, hb⟩
        have B5 := Lib.hid (B4.out.trans (hb.mono B4.out.size))
        clear hb
        go_wp2_with fail
        go_ret
        exact ⟨rfl, B5.out⟩
      · have CX := CW [255] (by decide) (bad_14 m)
        rw [← B_app, ← B_app, ← B_app] at CX
        have CX := Lib.hid CX
        clear CW
        go_wp2_with fail
        refine (CX.out _ (HR.out.alloc HR.out.size _)).mono ?_
        rintro e w4 ⟨rfl, hb⟩
        have B4 := Lib.hid (HR.out.trans ((((Below.refl _ wr).alloc (Nat.le_refl _) _).trans (hb.mono (by simp))).mono HR.out.size))
        clear hb CX
        go_wp2_with fail
        refine (works_calls _ (HG.out _ B4.out)).mono ?_
        rintro e w5 ⟨rfl, hb⟩
        have B5 := Lib.hid (B4.out.trans (hb.mono B4.out.size))
        clear hb
        go_wp2_with fail
        go_ret
        exact ⟨rfl, B5.out⟩
      · have CX := CW [46] (by decide) (bad_15 m)
        rw [← B_app, ← B_app, ← B_app] at CX
        have CX := Lib.hid CX
        clear CW
        go_wp2_with fail
        refine (CX.out _ (HR.out.alloc HR.out.size _)).mono ?_
        rintro e w4 ⟨rfl, hb⟩
        have B4 := Lib.hid (HR.out.trans ((((Below.refl _ wr).alloc (Nat.le_refl _) _).trans (hb.mono (by simp))).mono HR.out.size))
        clear hb CX
        go_wp2_with fail
        refine (works_calls _ (HG.out _ B4.out)).mono ?_
        rintro e w5 ⟨rfl, hb⟩
        have B5 := Lib.hid (B4.out.trans (hb.mono B4.out.size))
        clear hb
        go_wp2_with fail
        go_ret
        exact ⟨rfl, B5.out⟩
      · have CX := CW [58] (by decide) (bad_16 m)
        rw [← B_app, ← B_app, ← B_app] at CX
        have CX := Lib.hid CX
        clear CW
        go_wp2_with fail
        refine (CX.out _ (HR.out.alloc HR.out.size _)).mono ?_
        rintro e w4 ⟨rfl, hb⟩
        have B4 := Lib.hid (HR.out.trans ((((Below.refl _ wr).alloc (Nat.le_refl _) _).trans (hb.mono (by simp))).mono HR.out.size))
        clear hb CX
        go_wp2_with fail
        refine (works_calls _ (HG.out _ B4.out)).mono ?_
        rintro e w5 ⟨rfl, hb⟩
        have B5 := Lib.hid (B4.out.trans (hb.mono B4.out.size))
        clear hb
        go_wp2_with fail
        go_ret
        exact ⟨rfl, B5.out⟩
      · have CX := CW [35] (by decide) (bad_17 m)
        rw [← B_app, ← B_app, ← B_app] at CX
        have CX := Lib.hid CX
        clear CW
        go_wp2_with fail
        refine (CX.out _ (HR.out.alloc HR.out.size _)).mono ?_
        rintro e w4 ⟨rfl, hb⟩
        have B4 := Lib.hid (HR.out.trans ((((Below.refl _ wr).alloc (Nat.le_refl _) _).trans (hb.mono (by simp))).mono HR.out.size))
        clear hb CX
        go_wp2_with fail
        refine (works_calls _ (HG.out _ B4.out)).mono ?_
        rintro e w5 ⟨rfl, hb⟩
        have B5 := Lib.hid (B4.out.trans (hb.mono B4.out.size))
        clear hb
        go_wp2_with fail
        go_ret
        exact ⟨rfl, B5.out⟩
      · have CX := CW [64] (by decide) (bad_18 m)
        rw [← B_app, ← B_app, ← B_app] at CX
        have CX := Lib.hid CX
        clear CW
        go_wp2_with fail
        refine (CX.out _ (HR.out.alloc HR.out.size _)).mono ?_
        rintro e w4 ⟨rfl, hb⟩
        have B4 := Lib.hid (HR.out.trans ((((Below.refl _ wr).alloc (Nat.le_refl _) _).trans (hb.mono (by simp))).mono HR.out.size))
        clear hb CX
        go_wp2_with fail
        refine (works_calls _ (HG.out _ B4.out)).mono ?_
        rintro e w5 ⟨rfl, hb⟩
        have B5 := Lib.hid (B4.out.trans (hb.mono B4.out.size))
        clear hb
        go_wp2_with fail
        go_ret
        exact ⟨rfl, B5.out⟩
      · have CX := CW [126] (by decide) (bad_19 m)
        rw [← B_app, ← B_app, ← B_app] at CX
        have CX := Lib.hid CX
        clear CW
        go_wp2_with fail
        refine (CX.out _ (HR.out.alloc HR.out.size _)).mono ?_
        rintro e w4 ⟨rfl, hb⟩
        have B4 := Lib.hid (HR.out.trans ((((Below.refl _ wr).alloc (Nat.le_refl _) _).trans (hb.mono (by simp))).mono HR.out.size))
        clear hb CX
        go_wp2_with fail
        refine (works_calls _ (HG.out _ B4.out)).mono ?_
        rintro e w5 ⟨rfl, hb⟩
        have B5 := Lib.hid (B4.out.trans (hb.mono B4.out.size))
        clear hb
        go_wp2_with fail
        go_ret
        exact ⟨rfl, B5.out⟩
theorem wrong_law (l : List Pc) (v : Value) (m : ByteArray) (n : Nat) (hn : (n : Int) ≤ 255) (w : World) (hv : Pcs w v l) (hok : ∀ p ∈ l, OkPc p) (hG : Glob w) :
    Calls Tryd.prog 7 #[v, .string m, .int .u8 (n : Int)] w fun e w' => e = .returned (.bool true) ∧ Below w.heap.size w w' := by
  by_cases h : l.length ≤ 20 ∧ m.data.toList.length ≤ 100
  · exact wrong_short l v m.data.toList n (by omega) h.1 h.2 w hv hok hG
  · obtain ⟨A, c, rfl⟩ := hv.slice
    exact wrong_long l m.data.toList n A c (by omega) w hG
end Go.Proofs.YtkbmominplkdkaaDoor

