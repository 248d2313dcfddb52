/-
  The law's few: contract; what is read at the end of the tokens.
-/
import Derived.LoopTactic
import Derived.Test.YtoldhocdfkndbaaGreatDoorTEq
namespace Go.Proofs.YtoldhocdfkndbaaGreatDoor.E6
open Go Go.RowKit Go.Proofs.YtoldhocdfkndbaaGreatDoor Go.Proofs.YtoldhocdfkndbaaGreatDoor.E5

theorem tk_end (l : TL) : tkAt l l.length = (0, []) := by unfold tkAt; rw [List.getElem?_eq_none (Nat.le_refl _)]; rfl
theorem stR_end (l : TL) (d : Nat) : stR l l.length d = .bad l.length 7 := by
  rw [stR_eq l _ d (Nat.le_refl _)]
  have hk : kwAt l l.length = [] := by unfold kwAt; rw [tk_end]; rfl
  unfold oneS
  rw [hk, if_neg (by decide), if_neg (by decide), if_neg (by decide), if_neg (by decide), if_neg (by decide), if_neg (by decide)]
  unfold namS
  rw [tk_end, if_neg (by decide)]
theorem blR_end (l : TL) (d : Nat) : blR l l.length d = .bad l.length 7 := by
  rw [blR_eq l _ d (Nat.le_refl _)]
  have hs : sgAt l l.length = [] := by unfold sgAt; rw [tk_end]; rfl
  rw [hs, if_neg (by decide)]
/-- What few gives: if it says yes, there are at most 400 tokens. -/
def FewR (w : World) (l : TL) (e : Ending) (w' : World) : Prop := ∃ b : Bool, e = .returned (.bool b) ∧ (b = true → l.length ≤ 400) ∧ Below w.heap.size w w'
set_option maxRecDepth 100000 in
set_option maxHeartbeats 4000000 in
/-- few: if it says yes, there are at most 400 tokens. -/
theorem few_calls {w : World} {l : TL} {v : Value} (hT : TokL w w.heap.size v l) :
    Calls Tryz.prog 35 #[v] w (FewR w l) := by
  obtain ⟨A, c, rfl, hlen, hel⟩ := hT
  have HEL := Lib.hid hel
  clear hel
  go_enter Tryz.func35, Tryz.ntmps35
  go_wp2_with fail
  go_loopw [3, 4] (fun k i wr => ∃ (n : Nat) (a : Int), n ≤ l.length ∧ n ≤ 401 ∧ i = .int .i64 n ∧ k = .int .i64 a ∧ Hid (Below w.heap.size w wr)) (fun _ i _ => l.length - (intOf i).toNat)
  case atStart => exact ⟨0, 0, by omega, by omega, rfl, rfl, Lib.hid (Below.refl _ _)⟩
  case round =>
    obtain ⟨n, a, hn, hn4, rfl, rfl, HW⟩ := hrel
    by_cases hlt : n < l.length
    · by_cases h4 : n ≤ 400
      · obtain ⟨ht, b, o, z, hA, hbl, d0, d1, d2⟩ := HEL.out n l[n] (List.getElem?_eq_getElem hlt)
        have d1 := (HW.out.cell (p := ⟨b, o + n * 3 + 1, none⟩) hbl).trans d1
        subst hA
        clear d0 d2
        generalize l[n] = t at *
        obtain ⟨t1, t2⟩ := t
        simp only at d1 ht
        go_wp2_with fail
        go_roundw
        case rel => exact ⟨n + 1, _, by omega, by omega, by go_num, rfl, HW⟩
        case measure => simp [intOf]; omega
      · have h4' : ¬ (l.length : Int) ≤ 400 := by omega
        go_wp2_with fail
        go_ret
        exact ⟨false, rfl, (fun h => by cases h), HW.out⟩
    · obtain rfl : n = l.length := by omega
      by_cases h4 : (l.length : Int) ≤ 400
      · by_cases h5 : a ≤ 3000
        · go_wp2_with fail
          go_ret
          exact ⟨true, rfl, (fun _ => by omega), HW.out⟩
        · go_wp2_with fail
          go_ret
          exact ⟨false, rfl, (fun h => by cases h), HW.out⟩
      · go_wp2_with fail
        go_ret
        exact ⟨false, rfl, (fun h => by cases h), HW.out⟩
end Go.Proofs.YtoldhocdfkndbaaGreatDoor.E6
