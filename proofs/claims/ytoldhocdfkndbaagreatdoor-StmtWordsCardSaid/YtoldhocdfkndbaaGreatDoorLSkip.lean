/-
  skip, of both: contracts.
-/
import Derived.Test.YtoldhocdfkndbaaGreatDoorLRow
import Derived.Test.YtoldhocdfkndbaaGreatDoorCut
import Derived.WalkMore
namespace Go.Proofs.YtoldhocdfkndbaaGreatDoor.L4
open Go Go.RowKit Go.Sort

theorem sk_white {c : UInt8} {r : Bytes} (h : whi c = true) : skN false (c :: r) = 1 + skN false r := by rw [skN, if_pos h]
theorem sk_none {c : UInt8} {r : Bytes} (h : whi c = false) (h2 : ¬ (c = 47 ∧ r.head? = some 47)) : skN false (c :: r) = 0 := by rw [skN, if_neg (by simp [h]), if_neg h2]
theorem sk_open {r : Bytes} : skN false (47 :: 47 :: r) = 2 + skN true r := by
  rw [skN, if_neg (by decide), if_pos ⟨rfl, rfl⟩, skN, if_neg (by decide)]; omega
theorem sk_note (l : Bytes) : skN true l = (upTo 10 l).length + skN false (l.drop (upTo 10 l).length) := by
  induction l with
  | nil => rfl
  | cons c r ih =>
    by_cases h : c = 10
    · subst h
      rw [upTo, if_pos rfl, skN, if_pos rfl]
      show 1 + skN false r = 0 + skN false (10 :: r)
      rw [sk_white (by decide)]; omega
    · rw [upTo, if_neg h, skN, if_neg h, ih, List.length_cons, List.drop_succ_cons]; omega
theorem drop_at {s : Bytes} {a : Nat} (h : a < s.length) : s.drop a = s[a] :: s.drop (a + 1) := (List.getElem_cons_drop h).symm
theorem skAt_white {s : Bytes} {a : Nat} (h : a < s.length) (hw : whi s[a] = true) : skAt s (a + 1) = skAt s a := by
  unfold skAt; rw [drop_at h, sk_white hw]; omega
theorem hp_two (l : Bytes) : Lib.hasPrefix l [47, 47] = true → ∃ r, l = 47 :: 47 :: r := by
  intro h
  unfold Lib.hasPrefix at h
  match l, h with
  | [], h => simp [List.isPrefixOf] at h
  | [x], h => simp [List.isPrefixOf] at h
  | x :: y :: r, h =>
    simp [List.isPrefixOf] at h
    exact ⟨r, by rw [← h.1, ← h.2]⟩
theorem skAt_note {s : Bytes} {a : Nat} (_h : a < s.length) (hp : Lib.hasPrefix (s.drop a) [47, 47] = true) : skAt s (a + (upTo 10 (s.drop a)).length) = skAt s a ∧ 2 ≤ (upTo 10 (s.drop a)).length := by
  obtain ⟨r, hr⟩ := hp_two _ hp
  unfold skAt
  rw [← List.drop_drop, hr, sk_open]
  have hu : upTo 10 (47 :: 47 :: r) = 47 :: 47 :: upTo 10 r := by rw [upTo, if_neg (by decide), upTo, if_neg (by decide)]
  rw [hu, sk_note r]
  simp only [List.length_cons, List.drop_succ_cons]
  omega
theorem skAt_stop {s : Bytes} {a : Nat} (h : a < s.length) (hw : whi s[a] = false) (hp : Lib.hasPrefix (s.drop a) [47, 47] = false) : skAt s a = a := by
  unfold skAt
  rw [drop_at h] at hp ⊢
  rw [sk_none hw]
  · rfl
  · rintro ⟨h1, h2⟩
    rw [← Bool.not_eq_true] at hp
    apply hp
    cases hd : s.drop (a + 1) with
    | nil => rw [hd] at h2; cases h2
    | cons y r =>
      rw [hd] at h2
      simp at h2
      subst h2
      rw [h1]
      simp [Lib.hasPrefix, List.isPrefixOf]
theorem skAt_end {s : Bytes} : skAt s s.length = s.length := by unfold skAt; rw [List.drop_of_length_le (Nat.le_refl _)]; rfl

set_option maxHeartbeats 1000000 in
theorem skip_calls (s : Bytes) (a0 : Nat) (h0 : a0 ≤ s.length) (hs : s.length ≤ 281474976710656) (w : World) :
    Calls Tryz.prog 88 #[.string (B s), .int .i64 a0] w fun e w' => e = .returned (.int .i64 (skAt s a0)) ∧ Below w.heap.size w w' := by
  have HB0 := Lib.hid (Below.refl w.heap.size w)
  go_enter Tryz.func88, Tryz.ntmps88
  go_wp2_with fail
  go_step3
  go_wp2_with fail
  go_step3
  go_wp2_with fail
  go_loopw [1] (fun i wr => ∃ a : Nat, a ≤ s.length ∧ i = .int .i64 a ∧ Hid (skAt s a = skAt s a0) ∧ Hid (Below w.heap.size w wr)) (fun i _ => s.length - (intOf i).toNat)
  case atStart => exact ⟨a0, h0, rfl, Lib.hid rfl, HB0⟩
  case round =>
    obtain ⟨a, ha, rfl, HE, HB⟩ := hrel
    by_cases hlt : a < s.length
    · have hb : a < (B s).size := by rw [B_size]; exact hlt
      have hge : s[a] = (B s)[a]'hb := rfl
      by_cases e1 : whiI (((B s)[a]'hb).toNat : Int) = true
      · have HE2 := Lib.hid ((skAt_white hlt (show whi s[a] = true from e1)).trans HE.out)
        clear HE
        go_wp2_with fail
        refine (white_calls _ _).mono ?_
        rintro e w1 ⟨rfl, rfl⟩
        go_wp2_with fail
        go_roundw
        case rel => exact ⟨a + 1, by omega, by go_num, HE2, HB⟩
        case measure => simp [intOf]; omega
      · simp only [Bool.not_eq_true] at e1
        have hdd : ((B s).extract a (B s).size).data.toList = s.drop a := by rw [ext_drop]
        have C1 := fun W => Tryz.strings_HasPrefix ((B s).extract a (B s).size) ⟨#[47, 47]⟩ W
        have hd : Lib.hasPrefix ((B s).extract a (B s).size).data.toList (⟨#[47, 47]⟩ : ByteArray).data.toList = Lib.hasPrefix (s.drop a) [47, 47] := by rw [hdd]
        rw [hd] at C1
        by_cases hp : Lib.hasPrefix (s.drop a) [47, 47] = true
        · rw [hp] at C1
          obtain ⟨n1, n2⟩ := skAt_note hlt hp
          have C2 := fun W => strings_cut1 ((B s).extract a (B s).size) 10 W (by rw [ext_drop, B_size, List.length_drop]; omega)
          rw [hdd] at C2
          have hL : (upTo 10 (s.drop a)).length ≤ s.length - a := by have := upTo_le 10 (s.drop a); rwa [List.length_drop] at this
          have HE2 := Lib.hid (n1.trans HE.out)
          have C1 := Lib.hid C1
          have C2 := Lib.hid C2
          clear HE n1 hp hd hdd
          generalize upTo 10 (s.drop a) = m at *
          generalize (behind 10 (s.drop a)).isSome = q1 at *
          generalize (behind 10 (s.drop a)).getD [] = q2 at *
          go_wp2_with fail
          refine (white_calls _ _).mono ?_
          rintro e w1 ⟨rfl, rfl⟩
          go_wp2_with fail
          refine (C1.out _).mono ?_
          rintro e w1 ⟨rfl, rfl⟩
          go_wp2_with fail
          refine (C2.out _).mono ?_
          rintro e w1 ⟨rfl, n, rfl⟩
          go_wp2_with fail
          go_roundw
          case rel => exact ⟨a + m.length, by omega, by go_num, HE2, Lib.hid (HB.out.trans ⟨rfl, rfl, rfl, Nat.le_refl _, fun _ _ => rfl⟩)⟩
          case measure => simp [intOf]; omega
        · simp only [Bool.not_eq_true] at hp
          rw [hp] at C1
          have C1 := Lib.hid C1
          have HX := Lib.hid (HE.out.symm.trans (skAt_stop hlt (show whi s[a] = false from e1) hp))
          clear hp hd hdd HE
          go_wp2_with fail
          refine (white_calls _ _).mono ?_
          rintro e w1 ⟨rfl, rfl⟩
          go_wp2_with fail
          refine (C1.out _).mono ?_
          rintro e w1 ⟨rfl, rfl⟩
          go_wp2_with fail
          try rw [Exit.noGoto_ret]
          go_ret
          exact ⟨by rw [HX.out]; rfl, HB.out⟩
    · obtain rfl : a = s.length := by omega
      have HX := Lib.hid (HE.out.symm.trans skAt_end)
      go_wp2_with fail
      try rw [Exit.noGoto_ret]
      go_ret
      exact ⟨by rw [HX.out]; rfl, HB.out⟩
end Go.Proofs.YtoldhocdfkndbaaGreatDoor.L4
