/-
  lexeme.Signs, firstSign: contracts.
-/
import Derived.Test.YtoldhocdfkndbaaGreatDoorLRow
import Derived.Deep.MidRow
import Derived.Deep.WholeRow
namespace Go.Proofs.YtoldhocdfkndbaaGreatDoor.L4
open Go Go.RowKit Go.Sort

theorem sg_range {w : World} (hG : GlobSG w) : w.rangeAt 3 0 sgRow.toList := by
  obtain ⟨c0, c1, c2, c3, c4, c5, c6, c7, c8, c9, c10, c11, c12, c13, c14, c15, c16, c17, c18, c19, c20, c21, c22⟩ := hG
  intro j v hv
  rw [Nat.zero_add]
  rw [Array.getElem?_toList] at hv
  match j, hv with
  | 0, hv => cases hv; exact c0
  | 1, hv => cases hv; exact c1
  | 2, hv => cases hv; exact c2
  | 3, hv => cases hv; exact c3
  | 4, hv => cases hv; exact c4
  | 5, hv => cases hv; exact c5
  | 6, hv => cases hv; exact c6
  | 7, hv => cases hv; exact c7
  | 8, hv => cases hv; exact c8
  | 9, hv => cases hv; exact c9
  | 10, hv => cases hv; exact c10
  | 11, hv => cases hv; exact c11
  | 12, hv => cases hv; exact c12
  | 13, hv => cases hv; exact c13
  | 14, hv => cases hv; exact c14
  | 15, hv => cases hv; exact c15
  | 16, hv => cases hv; exact c16
  | 17, hv => cases hv; exact c17
  | 18, hv => cases hv; exact c18
  | 19, hv => cases hv; exact c19
  | 20, hv => cases hv; exact c20
  | 21, hv => cases hv; exact c21
  | 22, hv => cases hv; exact c22
  | k + 23, hv => exact absurd hv (by rw [Array.getElem?_eq_none (by show 23 ≤ k + 23; omega)]; simp)
theorem sign_no {s : Bytes} (h : ∀ j, j < 23 → (sgL.getD j []).isPrefixOf s = false) : sign s = [] := by
  refine sign_nil fun x hx => ?_
  obtain ⟨i, hi, rfl⟩ := List.getElem_of_mem hx
  have := h i hi
  rw [List.getD_eq_getElem?_getD, List.getElem?_eq_getElem hi] at this
  exact this
theorem sign_yes {s : Bytes} {k : Nat} (hk : k < 23) (h : ∀ j, j < k → (sgL.getD j []).isPrefixOf s = false) (h1 : (sgL.getD k []).isPrefixOf s = true) : sign s = sgL.getD k [] := by
  have hl : k < sgL.length := hk
  have e : sgL.getD k [] = sgL[k] := by rw [List.getD_eq_getElem?_getD, List.getElem?_eq_getElem hl]; rfl
  unfold sign
  rw [e] at h1 ⊢
  rw [(List.find?_eq_some_iff_getElem (p := fun x => x.isPrefixOf s)).2 ⟨h1, k, hl, rfl, fun j hj => ?_⟩]
  · rfl
  · have := h j hj
    rw [List.getD_eq_getElem?_getD, List.getElem?_eq_getElem (by omega)] at this
    simpa using this
theorem firstSign_calls (s : Bytes) (w : World) (hG : GlobSG w) :
    Calls Tryz.prog 135 #[.string (B s)] w fun e w' => e = .returned (.string (B (sign s))) ∧ w = w' := by
  have hr := sg_range hG
  have hi' : (Tryz.prog.info? 206).map (·.size) = some sgRow.toList.length := by kernel_rfl
  have HR := Lib.hid hr
  clear hr hG
  go_enter Tryz.func135, Tryz.ntmps135
  go_wp2_with (refine wpList_load_mid rfl 206 _ rfl 3 0 rfl sgRow.toList _ HR.out Tryz.underlying206 rfl hi' ?_; rw [show Value.agg sgRow.toList.toArray = sgArr from rfl])
  clear hi'
  go_loop [6] (fun i => ∃ k : Nat, k ≤ 23 ∧ i = .int .i64 k ∧ ∀ j, j < k → (sgL.getD j []).isPrefixOf s = false) (fun i => 23 - (intOf i).toNat)
  case atStart => exact ⟨0, by omega, rfl, fun j hj => by omega⟩
  case round =>
    obtain ⟨k, hk, rfl, hno⟩ := hrel
    have H := Lib.hid hno
    clear hno
    by_cases hlt : k < 23
    · have hi := sg_at k hlt
      have C := Tryz.strings_HasPrefix (B s) (B (sgL.getD k [])) w
      have hd : Lib.hasPrefix (B s).data.toList (B (sgL.getD k [])).data.toList = (sgL.getD k []).isPrefixOf s := rfl
      rw [hd] at C
      by_cases hp : (sgL.getD k []).isPrefixOf s = true
      · rw [hp] at C
        have HP := Lib.hid (sign_yes hlt H.out hp)
        clear hp hd
        generalize hgp : sgL.getD k [] = p at *
        go_wp2_with fail
        refine C.mono ?_
        rintro e w1 ⟨rfl, rfl⟩
        go_wp2_with fail
        go_ret
        exact ⟨by rw [HP.out]; rfl, rfl⟩
      · simp only [Bool.not_eq_true] at hp
        rw [hp] at C
        have HP := Lib.hid hp
        clear hp hd
        generalize hgp : sgL.getD k [] = p at *
        go_wp2_with fail
        refine C.mono ?_
        rintro e w1 ⟨rfl, rfl⟩
        go_wp2_with fail
        go_round
        case rel =>
          refine ⟨k + 1, by omega, by go_num, fun j hj => ?_⟩
          rcases Nat.lt_or_ge j k with h1 | h1
          · exact H.out j h1
          · obtain rfl : j = k := by omega
            rw [hgp]; exact HP.out
        case measure => simp [intOf]; omega
    · obtain rfl : k = 23 := by omega
      go_wp2_with fail
      go_ret
      exact ⟨by rw [sign_no H.out]; rfl, rfl⟩

end Go.Proofs.YtoldhocdfkndbaaGreatDoor.L4
