/-
  The reference's head as a whole; size, Size: contracts.
-/
import Derived.Test.YthiilnhiihfknaaDoorSRHeadA
import Derived.Test.YthiilnhiihfknaaDoorSRHeadD
import Derived.Test.YthiilnhiihfknaaDoorSMm
namespace Go.Proofs.YthiilnhiihfknaaDoor
open Go Go.RowKit

theorem refHead_calls (s : St) (ho : OkS s) (va vb ve : Value) (w : World) (hA : EIn w w.heap.size s.args va) (hB : SIn w w.heap.size s.body vb) (hE : SIn w w.heap.size s.els ve) :
    Calls Tryd.prog 100 #[sV s va vb ve] w fun e w' => e = .returned (.bool (headB s)) ∧ Below w.heap.size w w' := by
  obtain ⟨kind, no, name, typ, callee, args, body, els⟩ := s
  have l1 := ho.name
  have l2 := ho.callee
  simp only at l1 l2 hA hB hE
  rcases (show kind = 1 ∨ kind = 2 ∨ kind = 3 ∨ kind = 4 ∨ kind = 5 ∨ kind = 6 ∨ kind = 7 ∨ kind = 8 ∨ kind = 9 ∨ kind = 10 ∨ (kind < 1 ∨ 10 < kind) by omega) with rfl | rfl | rfl | rfl | rfl | rfl | rfl | rfl | rfl | rfl | h
  · exact refHead_A 0 1 row_1 no name typ callee args body els l1 l2 va vb ve w hA hB hE
  · exact refHead_B 2 rfl rfl rfl rfl rfl 1 1 row_2 no name typ callee args body els l1 l2 va vb ve w hA hB hE
  · exact refHead_B 3 rfl rfl rfl rfl rfl 2 2 row_3 no name typ callee args body els l1 l2 va vb ve w hA hB hE
  · exact refHead_B 4 rfl rfl rfl rfl rfl 1 1 row_4 no name typ callee args body els l1 l2 va vb ve w hA hB hE
  · exact refHead_B 5 rfl rfl rfl rfl rfl 0 0 row_5 no name typ callee args body els l1 l2 va vb ve w hA hB hE
  · exact refHead_C 6 rfl rfl rfl rfl rfl 1 1 row_6 no name typ callee args body els l1 l2 va vb ve w hA hB hE
  · exact refHead_D 0 8 row_7 no name typ callee args body els l1 l2 va vb ve w hA hB hE
  · exact refHead_C 8 rfl rfl rfl rfl rfl 0 1 row_8 no name typ callee args body els l1 l2 va vb ve w hA hB hE
  · exact refHead_E 1 1 row_9 no name typ callee args body els l1 l2 va vb ve w hA hB hE
  · exact refHead_F 1 1 row_10 no name typ callee args body els l1 l2 va vb ve w hA hB hE
  · have F := Lib.hid (show headB ⟨kind, no, name, typ, callee, args, body, els⟩ = false by simp [headB, stRow_none h])
    have HR := Lib.hid (row_none kind h)
    obtain ⟨Aa, ca, rfl⟩ := hA.slice
    obtain ⟨Ab, cb, rfl⟩ := hB.slice
    obtain ⟨Ae, ce, rfl⟩ := hE.slice
    clear hA hB hE h
    go_enter Tryd.func100, Tryd.ntmps100
    go_wp2_with fail
    refine (HR.out _).mono ?_
    rintro e w1 ⟨rfl, rfl⟩
    go_wp2_with fail
    go_ret
    exact ⟨by rw [F.out]; rfl, bal _ _⟩

/-- What size gives. -/
def szI (k : Nat) (l : List St) (room : Nat) : Int := match vis FA k l (200 - room) with
  | none => -1
  | some n => (n : Int) - (200 - room : Nat)

set_option maxRecDepth 100000 in
set_option maxHeartbeats 8000000 in
theorem size_calls (k : Nat) : ∀ (l : List St) (v : Value) (w : World) (room : Nat), k ≤ 20 → room ≤ 200 → SIn w w.heap.size l v →
    Calls Tryd.prog 88 #[v, .int .i64 (k : Int), .int .i64 (room : Int)] w fun e w' => e = .returned (.int .i64 (szI k l room)) ∧ Below w.heap.size w w' := by
  induction k with
  | zero =>
    intro l v w room _ hr hl
    obtain ⟨A, c, rfl⟩ := hl.slice
    have hle := hl.le
    rcases l with _ | ⟨s, l⟩
    · have F := Lib.hid (show szI 0 [] room = 0 by simp [szI, vis])
      clear hl
      go_enter Tryd.func88, Tryd.ntmps88
      go_wp2_with fail
      refine wp_loop_rounds 1 ?_
      rw [rounds_succ]
      go_wp2_with fail
      go_ret
      exact ⟨by rw [F.out]; rfl, Below.refl _ _⟩
    · have F := Lib.hid (show szI 0 (s :: l) room = -1 by simp [szI, vis])
      clear hl
      go_enter Tryd.func88, Tryd.ntmps88
      go_wp2_with fail
      go_ret
      exact ⟨by rw [F.out]; rfl, Below.refl _ _⟩
  | succ k ih =>
    intro l v w room hk hr hl
    have IH := Lib.hid ih
    obtain ⟨A, c, rfl⟩ := hl.slice
    have hle := hl.le
    have HL := Lib.hid hl
    have hkb : (k : Int) ≤ 20 := by omega
    have hk1 : ¬ (k : Int) + 1 < 1 := by omega
    have hrb : (room : Int) ≤ 200 := by omega
    have HFS := Lib.hid (fun (j n : Nat) (hj : j < l.length) (hf : (l.take j).foldlM (visS FA k) (200 - room) = some (200 - room + n)) (hs : visS FA k (200 - room + n) l[j] = none) => show szI (k + 1) l room = -1 by unfold szI; rw [fold_none hj hf hs])
    have HFD := Lib.hid (fun (n : Nat) (hf : (l.take l.length).foldlM (visS FA k) (200 - room) = some (200 - room + n)) => show szI (k + 1) l room = (n : Int) by unfold szI; rw [fold_done hf]; simp only; omega)
    have hcond : ¬ (0 < l.length ∧ (k : Int) + 1 < 1) := by omega
    clear ih hl
    clear hcond
    by_cases h0 : 0 < l.length
    · go_enter Tryd.func88, Tryd.ntmps88
      go_wp2_with fail
      go_loopw [7, 8] (fun nn i wr => ∃ (j n : Nat), j ≤ l.length ∧ i = .int .i64 j ∧ nn = .int .i64 n ∧ n ≤ room ∧ (l.take j).foldlM (visS FA k) (200 - room) = some (200 - room + n) ∧ Below w.heap.size w wr) (fun _ i _ => l.length - (intOf i).toNat)
      case atStart => exact ⟨0, 0, by omega, rfl, rfl, by omega, rfl, Below.refl _ _⟩
      case round =>
        obtain ⟨j, n, hj, rfl, rfl, hn, hfold, hbw⟩ := hrel
        have HFO := Lib.hid hfold
        have HW := Lib.hid hbw
        have hz := hbw.size
        clear hfold hbw
        by_cases hlt : j < l.length
        · obtain ⟨b, o, va, vb, ve, hA, hbl, hoe, hc, h1, h2, h3⟩ := (HL.out.at_).2 j hlt
          obtain ⟨a0, a1, a2, a3, a4, a5, a6, a7⟩ := hc.keep (fun i => HW.out.cell (p := ⟨b, i, none⟩) hbl)
          obtain ⟨A1, c1, rfl⟩ := h1.slice
          obtain ⟨A2, c2, rfl⟩ := h2.slice
          obtain ⟨A3, c3, rfl⟩ := h3.slice
          have HA := Lib.hid h1
          have HB := Lib.hid h2
          have HE := Lib.hid h3
          have HC := Lib.hid hc
          subst hA
          clear h1 h2 h3 hc
          have HNX := Lib.hid (fun h => HFS.out j n hlt HFO.out h)
          have HSN := Lib.hid (show (l.take (j + 1)).foldlM (visS FA k) (200 - room) = visS FA k (200 - room + n) l[j] by rw [fold_snoc hlt, HFO.out]; rfl)
          generalize l[j] = s at *
          have hn1 : (n : Int) + 1 ≤ 201 := by omega
          by_cases h200 : n = room
          · have hgt : (room : Int) < (n : Int) + 1 := by omega
            have HNO := Lib.hid (HNX.out (by unfold visS; rw [if_pos (.inl (by omega))]))
            go_wp2_with fail
            go_ret
            exact ⟨by rw [HNO.out]; rfl, HW.out⟩
          · have hgt : ¬ (room : Int) < (n : Int) + 1 := by omega
            have hnr : n + 1 ≤ room := by omega
            cases hF : headB s with
            | false =>
              have HFF := Lib.hid hF
              clear hF
              have HNO := Lib.hid (HNX.out (by unfold visS; rw [if_pos (.inr (by unfold FA; exact HFF.out))]))
              go_wp2_with fail
              refine (refHead_calls s hoe _ _ _ _ (HA.out.up HW.out) (HB.out.up HW.out) (HE.out.up HW.out)).mono ?_
              rintro e w2 ⟨rfl, hf2⟩
              have HW2 := Lib.hid (after HW.out hf2)
              clear hf2
              rw [HFF.out]
              go_wp2_with fail
              go_ret
              exact ⟨by rw [HNO.out]; rfl, HW2.out⟩
            | true =>
              have HFF := Lib.hid hF
              clear hF
              have HVS := Lib.hid (show visS FA k (200 - room + n) s = (vis FA k s.body (200 - room + n + 1)).bind fun m => vis FA k s.els m by unfold visS; rw [if_neg (by unfold FA; rw [HFF.out]; simp; omega)])
              go_wp2_with fail
              refine (refHead_calls s hoe _ _ _ _ (HA.out.up HW.out) (HB.out.up HW.out) (HE.out.up HW.out)).mono ?_
              rintro e w2 ⟨rfl, hf2⟩
              have HW2 := Lib.hid (after HW.out hf2)
              clear hf2 a0 a1 a2 a3 a4 a5 a6 a7
              obtain ⟨a0, a1, a2, a3, a4, a5, a6, a7⟩ := HC.out.keep (fun i => HW2.out.cell (p := ⟨b, i, none⟩) hbl)
              rw [HFF.out]
              go_wp2_with fail
              have e1 : ((room : Int) - ((n : Int) + 1)) = ((room - (n + 1) : Nat) : Int) := by omega
              rw [e1]
              refine (IH.out s.body _ _ (room - (n + 1)) (by omega) (by omega) (HB.out.up HW2.out)).mono ?_
              rintro e w4 ⟨rfl, hf4⟩
              have HW4 := Lib.hid (after HW2.out hf4)
              clear hf4 a0 a1 a2 a3 a4 a5 a6 a7
              obtain ⟨a0, a1, a2, a3, a4, a5, a6, a7⟩ := HC.out.keep (fun i => HW4.out.cell (p := ⟨b, i, none⟩) hbl)
              have h1v := vis_bounds FA k s.body (200 - room + n + 1)
              have HS1 := Lib.hid (show szI k s.body (room - (n + 1)) = match vis FA k s.body (200 - room + n + 1) with | none => -1 | some m => (m : Int) - ((200 - room + n + 1 : Nat) : Int) by
                unfold szI; rw [show 200 - (room - (n + 1)) = 200 - room + n + 1 by omega])
              cases hv : vis FA k s.body (200 - room + n + 1) with
              | none =>
                have HNO := Lib.hid (HNX.out (by rw [HVS.out, hv]; rfl))
                have HS2 := Lib.hid (show szI k s.body (room - (n + 1)) = -1 by rw [HS1.out, hv])
                clear hv h1v HS1
                rw [HS2.out]
                go_wp2_with fail
                go_ret
                exact ⟨by rw [HNO.out]; rfl, HW4.out⟩
              | some m =>
                have hmb := h1v m hv (by omega)
                obtain ⟨p, hp⟩ : ∃ p, m = 200 - room + n + 1 + p := ⟨m - (200 - room + n + 1), by omega⟩
                have HS2 := Lib.hid (show szI k s.body (room - (n + 1)) = (p : Int) by rw [HS1.out, hv]; simp only; omega)
                have HVm := Lib.hid hv
                clear hv h1v HS1
                rw [HS2.out]
                have hpb : (p : Int) ≤ 200 := by omega
                have hnp : (n : Int) + 1 + p ≤ 200 := by omega
                have hp0 : ¬ (p : Int) < 0 := by omega
                go_wp2_with fail
                have e2 : ((room : Int) - ((n : Int) + 1 + p)) = ((room - (n + 1 + p) : Nat) : Int) := by omega
                rw [e2]
                refine (IH.out s.els _ _ (room - (n + 1 + p)) (by omega) (by omega) (HE.out.up HW4.out)).mono ?_
                rintro e w5 ⟨rfl, hf5⟩
                have HW5 := Lib.hid (after HW4.out hf5)
                clear hf5 a0 a1 a2 a3 a4 a5 a6 a7
                have h2v := vis_bounds FA k s.els m
                have HS3 := Lib.hid (show szI k s.els (room - (n + 1 + p)) = match vis FA k s.els m with | none => -1 | some q => (q : Int) - (m : Int) by
                  unfold szI; rw [show 200 - (room - (n + 1 + p)) = m by omega])
                cases hv : vis FA k s.els m with
                | none =>
                  have HNO := Lib.hid (HNX.out (by rw [HVS.out, HVm.out]; exact hv))
                  have HS4 := Lib.hid (show szI k s.els (room - (n + 1 + p)) = -1 by rw [HS3.out, hv])
                  clear hv h2v HS3
                  rw [HS4.out]
                  go_wp2_with fail
                  go_ret
                  exact ⟨by rw [HNO.out]; rfl, HW5.out⟩
                | some q =>
                  have hqb := h2v q hv (by omega)
                  obtain ⟨r, hr'⟩ : ∃ r, q = m + r := ⟨q - m, by omega⟩
                  have HS4 := Lib.hid (show szI k s.els (room - (n + 1 + p)) = (r : Int) by rw [HS3.out, hv]; simp only; omega)
                  have HFN := Lib.hid (show (l.take (j + 1)).foldlM (visS FA k) (200 - room) = some (200 - room + (n + 1 + p + r)) by rw [HSN.out, HVS.out, HVm.out]; show vis FA k s.els m = _; rw [hv]; congr 1; omega)
                  clear hv h2v HS3
                  rw [HS4.out]
                  have hrb : (r : Int) ≤ 200 := by omega
                  have hr0 : ¬ (r : Int) < 0 := by omega
                  have hall : n + 1 + p + r ≤ room := by omega
                  go_wp2_with fail
                  go_roundw
                  case rel => exact ⟨j + 1, n + 1 + p + r, by omega, by go_num, by go_num, hall, HFN.out, HW5.out⟩
                  case measure => simp [intOf]; omega
        · obtain rfl : j = l.length := by omega
          have HD := Lib.hid (HFD.out n HFO.out)
          go_wp2_with fail
          go_ret
          exact ⟨by rw [HD.out]; rfl, HW.out⟩
    · obtain rfl : l = [] := List.eq_nil_of_length_eq_zero (by omega)
      have F := Lib.hid (HFD.out 0 rfl)
      go_enter Tryd.func88, Tryd.ntmps88
      go_wp2_with fail
      refine wp_loop_rounds 1 ?_
      rw [rounds_succ]
      go_wp2_with fail
      go_ret
      exact ⟨by rw [F.out]; rfl, Below.refl _ _⟩

theorem szI_right (l : List St) : decide (szI 20 l 200 < 0) = !rightL l := by
  unfold szI rightL
  have e : vis FA 20 l (200 - 200) = vis (fun _ s => headB s) 20 l 0 := rfl
  rw [e]
  cases h : vis (fun _ s => headB s) 20 l 0 with
  | none => rfl
  | some n => simp
theorem size_top_calls (l : List St) (v : Value) (w : World) (hl : SIn w w.heap.size l v) :
    Calls Tryd.prog 65 #[v] w fun e w' => e = .returned (.int .i64 (szI 20 l 200)) ∧ Below w.heap.size w w' := by
  obtain ⟨A, c, rfl⟩ := hl.slice
  have HL := Lib.hid hl
  clear hl
  go_enter Tryd.func65, Tryd.ntmps65
  go_wp2_with fail
  refine (size_calls 20 l _ _ 200 (by omega) (by omega) HL.out).mono ?_
  rintro e w2 ⟨rfl, hb⟩
  have HB := Lib.hid hb
  clear hb
  go_wp2_with fail
  go_ret
  exact ⟨rfl, HB.out⟩
end Go.Proofs.YthiilnhiihfknaaDoor
