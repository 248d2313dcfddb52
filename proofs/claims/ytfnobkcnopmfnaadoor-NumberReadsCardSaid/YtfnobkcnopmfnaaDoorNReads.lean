/-
  NumberReads: the law's walk.
-/
import Derived.Test.YtfnobkcnopmfnaaDoorNBack
namespace Go.Proofs.YtfnobkcnopmfnaaDoor.reads
open Go Go.RowKit Go.Shelf Go.Sort Go.Proofs.YtfnobkcnopmfnaaDoor Go.Proofs.YtfnobkcnopmfnaaDoor.texts Go.Proofs.YtfnobkcnopmfnaaDoor.back

theorem Ints.at {W : World} {a : Option Addr} {m c : Nat} {ns : List Int} (h : Ints W (.slice a m c) ns) {k : Nat} (hk : k < ns.length) : ∃ b o, a = some ⟨b, o, none⟩ ∧ W.cell? ⟨b, o + k, none⟩ = some (.int .i64 ns[k]) := by
  rcases h.is with ⟨_, rfl⟩ | ⟨b, o, c', e, hb, hc⟩
  · simp at hk
  · cases e
    exact ⟨b, o, rfl, hc k _ (List.getElem?_eq_getElem hk)⟩

set_option maxRecDepth 100000 in
set_option maxHeartbeats 4000000 in
theorem long (s : ByteArray) (hs : 300 < s.size) (hm : s.size ≤ 9223372036854775807) (w : World) (hG : Glob w) :
    Calls Tryd.prog 6 #[.string s] w fun e w' => e = .returned (.bool true) ∧ Below w.heap.size w w' := by
  have HG := Lib.hid hG
  have e1 : (300 : Int) < s.size := by omega
  clear hG
  go_enter Tryd.func6, Tryd.ntmps6
  go_wp2_with fail
  refine (works_calls _ HG.out).mono ?_
  rintro e w2 ⟨rfl, hb⟩
  have B2 := Lib.hid hb
  clear hb
  go_wp2_with fail
  go_ret
  exact ⟨rfl, B2.out⟩

set_option maxRecDepth 100000 in
set_option maxHeartbeats 4000000 in
theorem bad (s : ByteArray) (hs : s.size ≤ 300) (h1 : numParse s.data.toList = none) (h2 : numList s.data.toList = none) (w : World) (hG : Glob w) :
    Calls Tryd.prog 6 #[.string s] w fun e w' => e = .returned (.bool true) ∧ Below w.heap.size w w' := by
  have P1 := parse_calls s
  have L1 := list_calls s (by omega)
  unfold ListIs at L1
  rw [h1] at P1
  rw [h2] at L1
  simp only [encN, encE, listOr] at P1 L1
  have HP := Lib.hid P1
  have HL := Lib.hid L1
  have HG := Lib.hid hG
  have e1 : ¬ (300 : Int) < s.size := by omega
  clear hG P1 L1 h1 h2
  go_enter Tryd.func6, Tryd.ntmps6
  go_wp2_with fail
  refine (HP.out _ HG.out).mono ?_
  rintro e w1 ⟨rfl, hb⟩
  have B1 := Lib.hid hb
  clear hb HP
  go_wp2_with fail
  refine (HL.out _ (HG.out.below B1.out)).mono ?_
  rintro e w2 ⟨v, rfl, hi, hb⟩
  obtain ⟨a, c, rfl⟩ := hi.nil
  have B2 := Lib.hid (after B1.out hb)
  clear hb hi HL B1
  go_wp2_with fail
  refine (works_calls _ (HG.out.below B2.out)).mono ?_
  rintro e w3 ⟨rfl, hb⟩
  have B3 := Lib.hid (after B2.out hb)
  clear hb B2
  go_wp2_with fail
  go_ret
  exact ⟨rfl, B3.out⟩

set_option maxRecDepth 100000 in
set_option maxHeartbeats 4000000 in
theorem one (s : ByteArray) (hs : s.size ≤ 300) (n0 : Int) (hp : numParse s.data.toList = some n0) (hl : numList s.data.toList = some [n0]) (w : World) (hG : Glob w) :
    Calls Tryd.prog 6 #[.string s] w fun e w' => e = .returned (.bool true) ∧ Below w.heap.size w w' := by
  have P1 := parse_calls s
  have L1 := list_calls s (by omega)
  unfold ListIs at L1
  rw [hp] at P1
  rw [hl] at L1
  simp only [encN, encE, listOr] at P1 L1
  obtain ⟨hj, hok⟩ := numList_back hl
  obtain ⟨hn0, hs0⟩ := numParse_some hp
  have hT := fun W h => text_calls n0 hn0 W h
  rw [← hs0] at hT
  have HT := Lib.hid hT
  obtain ⟨ns, hns⟩ : ∃ ns, [n0] = ns := ⟨_, rfl⟩
  have hone : ns.length = 1 := by rw [← hns]; rfl
  rw [hns] at L1 hj hok hl
  have eTS : (s.data.toList == s.toList) = true := by rw [Lib.toList_data]; simp
  have e2 : ((ns.length : Int) == 1) = true := by rw [hone]; rfl
  clear hT hns hs0 hn0
  have hlen : ns.length ≤ 301 := by
    have := list_len s.data.toList
    rw [hl, ← Lib.size_eq] at this
    simp only [listOr] at this
    omega
  have HP := Lib.hid P1
  have HL := Lib.hid L1
  have HJ := Lib.hid hj
  have HOK := Lib.hid hok
  have HG := Lib.hid hG
  have E2 := Lib.hid e2
  have e1 : ¬ (300 : Int) < s.size := by omega
  clear hG P1 L1 hp hl hj hok e2 hone
  go_enter Tryd.func6, Tryd.ntmps6
  go_wp2_with fail
  refine (HP.out _ HG.out).mono ?_
  rintro e w1 ⟨rfl, hb⟩
  have B1 := Lib.hid hb
  clear hb HP
  go_wp2_with fail
  refine (HT.out _ (HG.out.below B1.out)).mono ?_
  rintro e w1b ⟨rfl, hb⟩
  have B1 := Lib.hid (after B1.out hb)
  clear hb HT
  go_wp2_with fail
  refine (HL.out _ (HG.out.below B1.out)).mono ?_
  rintro e w2 ⟨v, rfl, hi, hb⟩
  obtain ⟨a, c, rfl⟩ := hi.slice
  have B2 := Lib.hid (after B1.out hb)
  have I2 := Lib.hid hi
  clear hb hi HL B1 eTS
  go_wp2_with fail
  go_loopw [7, 8] (fun t i wr => ∃ k : Nat, k ≤ ns.length ∧ i = .int .i64 k ∧ t = .string (B (joinN (ns.take k))) ∧ Hid (Below w.heap.size w wr) ∧ Hid (Ints wr (.slice a ns.length c) ns)) (fun _ i _ => ns.length - (intOf i).toNat)
  case atStart => exact ⟨0, Nat.zero_le _, rfl, rfl, B2, I2⟩
  case round =>
    obtain ⟨k, hk, rfl, rfl, hB, hI⟩ := hrel
    clear B2 I2
    by_cases hlt : k < ns.length
    · have hx := HOK.out ns[k] (List.getElem_mem hlt)
      have hT := text_calls ns[k] hx
      have htl := itoa_len ns[k] hx
      obtain ⟨b, o, rfl, hc⟩ := Ints.at hI.out hlt
      have hj := joinN_snoc (ns.take k) ns[k]
      rw [← List.take_succ_eq_append_getElem hlt] at hj
      have hjl := joinN_len (ns.take k) (fun x hx => HOK.out x (List.mem_of_mem_take hx))
      rw [List.length_take] at hjl
      have hk0 : (ns.take k = []) ↔ k = 0 := by
        rw [List.take_eq_nil_iff]
        constructor
        · rintro (h | h)
          · exact h
          · subst h; simp at hlt
        · exact fun h => .inl h
      have hj' : (k = 0 ∧ joinN (ns.take (k + 1)) = Lib.itoa ns[k]) ∨ (k ≠ 0 ∧ joinN (ns.take (k + 1)) = joinN (ns.take k) ++ 44 :: Lib.itoa ns[k]) := by
        by_cases e : k = 0
        · left; exact ⟨e, by rw [hj, if_pos (hk0.2 e)]⟩
        · right; exact ⟨e, by rw [hj, if_neg (fun h => e (hk0.1 h))]⟩
      have hj0 : k = 0 → joinN (ns.take k) = [] := fun e => by rw [hk0.2 e]; rfl
      generalize joinN (ns.take k) = ja at *
      generalize Lib.itoa ns[k] = tx at *
      generalize ns[k] = x at *
      have HT2 := Lib.hid hT
      have m1 : ¬ 9223372036854775807 < ja.length + 1 := by omega
      have m2 : ¬ 9223372036854775807 < ja.length + tx.length := by omega
      have m3 : ¬ 9223372036854775807 < ja.length + 1 + tx.length := by omega
      have hcb := hc
      clear hj hk0 hx hjl hT hc HOK HJ E2 htl
      rcases hj' with ⟨h0, hj⟩ | ⟨h0, hj⟩
      · have e0 := hj0 h0
        subst h0 e0
        rw [Nat.add_zero] at hcb
        have HJJ := Lib.hid hj
        clear hj hj0
        go_wp2_with fail
        refine (HT2.out _ (HG.out.below hB.out)).mono ?_
        rintro e w3 ⟨rfl, hb⟩
        have B3 := Lib.hid (after hB.out hb)
        have I3 := Lib.hid (hI.out.below hb)
        clear hb hB hI hcb
        go_wp2_with fail
        go_roundw
        case rel => exact ⟨1, by omega, by go_num, by show Value.string (B [] ++ B tx) = _; rw [HJJ.out, B_append]; rfl, B3, I3⟩
        case measure => simp [intOf] <;> omega
      · have hk1 : (0 : Int) < k := by omega
        have HJJ := Lib.hid hj
        clear hj hj0 h0
        go_wp2_with fail
        refine (HT2.out _ (HG.out.below hB.out)).mono ?_
        rintro e w3 ⟨rfl, hb⟩
        have B3 := Lib.hid (after hB.out hb)
        have I3 := Lib.hid (hI.out.below hb)
        clear hb hB hI hcb
        go_wp2_with fail
        go_roundw
        case rel => exact ⟨k + 1, by omega, by go_num, by show Value.string (B ja ++ B [44] ++ B tx) = _; rw [HJJ.out, B_append, B_append, List.append_assoc]; rfl, B3, I3⟩
        case measure => simp [intOf] <;> omega
    · obtain rfl : k = ns.length := by omega
      have htk : ns.take ns.length = ns := List.take_of_length_le (Nat.le_refl _)
      rw [htk, HJ.out]
      have es : (s.data.toList == s.toList) = true := by rw [Lib.toList_data]; simp
      have e2 := E2.out
      clear htk HJ HOK hI
      go_wp2_with fail
      refine (works_calls _ (HG.out.below hB.out)).mono ?_
      rintro e w3 ⟨rfl, hb⟩
      have B3 := Lib.hid (after hB.out hb)
      clear hb hB
      go_wp2_with fail
      go_ret
      exact ⟨rfl, B3.out⟩

set_option maxRecDepth 100000 in
set_option maxHeartbeats 4000000 in
theorem many (s : ByteArray) (hs : s.size ≤ 300) (ns : List Int) (hp : numParse s.data.toList = none) (hl : numList s.data.toList = some ns) (hone : ns.length ≠ 1) (w : World) (hG : Glob w) :
    Calls Tryd.prog 6 #[.string s] w fun e w' => e = .returned (.bool true) ∧ Below w.heap.size w w' := by
  have P1 := parse_calls s
  have L1 := list_calls s (by omega)
  unfold ListIs at L1
  rw [hp] at P1
  rw [hl] at L1
  simp only [encN, encE, listOr] at P1 L1
  obtain ⟨hj, hok⟩ := numList_back hl
  have e2 : ((ns.length : Int) == 1) = false := by rw [beq_eq_false_iff_ne]; omega
  have hlen : ns.length ≤ 301 := by
    have := list_len s.data.toList
    rw [hl, ← Lib.size_eq] at this
    simp only [listOr] at this
    omega
  have HP := Lib.hid P1
  have HL := Lib.hid L1
  have HJ := Lib.hid hj
  have HOK := Lib.hid hok
  have HG := Lib.hid hG
  have E2 := Lib.hid e2
  have e1 : ¬ (300 : Int) < s.size := by omega
  clear hG P1 L1 hp hl hj hok e2 hone
  go_enter Tryd.func6, Tryd.ntmps6
  go_wp2_with fail
  refine (HP.out _ HG.out).mono ?_
  rintro e w1 ⟨rfl, hb⟩
  have B1 := Lib.hid hb
  clear hb HP
  go_wp2_with fail
  refine (HL.out _ (HG.out.below B1.out)).mono ?_
  rintro e w2 ⟨v, rfl, hi, hb⟩
  obtain ⟨a, c, rfl⟩ := hi.slice
  have B2 := Lib.hid (after B1.out hb)
  have I2 := Lib.hid hi
  clear hb hi HL B1
  go_wp2_with fail
  go_loopw [7, 8] (fun t i wr => ∃ k : Nat, k ≤ ns.length ∧ i = .int .i64 k ∧ t = .string (B (joinN (ns.take k))) ∧ Hid (Below w.heap.size w wr) ∧ Hid (Ints wr (.slice a ns.length c) ns)) (fun _ i _ => ns.length - (intOf i).toNat)
  case atStart => exact ⟨0, Nat.zero_le _, rfl, rfl, B2, I2⟩
  case round =>
    obtain ⟨k, hk, rfl, rfl, hB, hI⟩ := hrel
    clear B2 I2
    by_cases hlt : k < ns.length
    · have hx := HOK.out ns[k] (List.getElem_mem hlt)
      have hT := text_calls ns[k] hx
      have htl := itoa_len ns[k] hx
      obtain ⟨b, o, rfl, hc⟩ := Ints.at hI.out hlt
      have hj := joinN_snoc (ns.take k) ns[k]
      rw [← List.take_succ_eq_append_getElem hlt] at hj
      have hjl := joinN_len (ns.take k) (fun x hx => HOK.out x (List.mem_of_mem_take hx))
      rw [List.length_take] at hjl
      have hk0 : (ns.take k = []) ↔ k = 0 := by
        rw [List.take_eq_nil_iff]
        constructor
        · rintro (h | h)
          · exact h
          · subst h; simp at hlt
        · exact fun h => .inl h
      have hj' : (k = 0 ∧ joinN (ns.take (k + 1)) = Lib.itoa ns[k]) ∨ (k ≠ 0 ∧ joinN (ns.take (k + 1)) = joinN (ns.take k) ++ 44 :: Lib.itoa ns[k]) := by
        by_cases e : k = 0
        · left; exact ⟨e, by rw [hj, if_pos (hk0.2 e)]⟩
        · right; exact ⟨e, by rw [hj, if_neg (fun h => e (hk0.1 h))]⟩
      have hj0 : k = 0 → joinN (ns.take k) = [] := fun e => by rw [hk0.2 e]; rfl
      generalize joinN (ns.take k) = ja at *
      generalize Lib.itoa ns[k] = tx at *
      generalize ns[k] = x at *
      have HT2 := Lib.hid hT
      have m1 : ¬ 9223372036854775807 < ja.length + 1 := by omega
      have m2 : ¬ 9223372036854775807 < ja.length + tx.length := by omega
      have m3 : ¬ 9223372036854775807 < ja.length + 1 + tx.length := by omega
      have hcb := hc
      clear hj hk0 hx hjl hT hc HOK HJ E2 htl
      rcases hj' with ⟨h0, hj⟩ | ⟨h0, hj⟩
      · have e0 := hj0 h0
        subst h0 e0
        rw [Nat.add_zero] at hcb
        have HJJ := Lib.hid hj
        clear hj hj0
        go_wp2_with fail
        refine (HT2.out _ (HG.out.below hB.out)).mono ?_
        rintro e w3 ⟨rfl, hb⟩
        have B3 := Lib.hid (after hB.out hb)
        have I3 := Lib.hid (hI.out.below hb)
        clear hb hB hI hcb
        go_wp2_with fail
        go_roundw
        case rel => exact ⟨1, by omega, by go_num, by show Value.string (B [] ++ B tx) = _; rw [HJJ.out, B_append]; rfl, B3, I3⟩
        case measure => simp [intOf] <;> omega
      · have hk1 : (0 : Int) < k := by omega
        have HJJ := Lib.hid hj
        clear hj hj0 h0
        go_wp2_with fail
        refine (HT2.out _ (HG.out.below hB.out)).mono ?_
        rintro e w3 ⟨rfl, hb⟩
        have B3 := Lib.hid (after hB.out hb)
        have I3 := Lib.hid (hI.out.below hb)
        clear hb hB hI hcb
        go_wp2_with fail
        go_roundw
        case rel => exact ⟨k + 1, by omega, by go_num, by show Value.string (B ja ++ B [44] ++ B tx) = _; rw [HJJ.out, B_append, B_append, List.append_assoc]; rfl, B3, I3⟩
        case measure => simp [intOf] <;> omega
    · obtain rfl : k = ns.length := by omega
      have htk : ns.take ns.length = ns := List.take_of_length_le (Nat.le_refl _)
      rw [htk, HJ.out]
      have es : (s.data.toList == s.toList) = true := by rw [Lib.toList_data]; simp
      have e2 := E2.out
      clear htk HJ HOK hI
      go_wp2_with fail
      refine (works_calls _ (HG.out.below hB.out)).mono ?_
      rintro e w3 ⟨rfl, hb⟩
      have B3 := Lib.hid (after hB.out hb)
      clear hb hB
      go_wp2_with fail
      go_ret
      exact ⟨rfl, B3.out⟩

theorem law (s : ByteArray) (hm : s.size ≤ 9223372036854775807) (w : World) (hG : Glob w) :
    Calls Tryd.prog 6 #[.string s] w fun e w' => e = .returned (.bool true) ∧ Below w.heap.size w w' := by
  by_cases hs : 300 < s.size
  · exact long s hs hm w hG
  · cases hp : numParse s.data.toList with
    | some n0 => exact one s (by omega) n0 hp ((numList_one _ _).1 hp) w hG
    | none =>
      cases hl : numList s.data.toList with
      | none => exact bad s (by omega) hp hl w hG
      | some ns =>
        refine many s (by omega) ns hp hl (fun h1 => ?_) w hG
        obtain ⟨x, rfl⟩ := List.length_eq_one_iff.1 h1
        rw [(numList_one _ _).2 hl] at hp
        cases hp
end Go.Proofs.YtfnobkcnopmfnaaDoor.reads
