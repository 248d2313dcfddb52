/-
  rewindref02: List, Same: contracts.
-/
import Derived.Test.YtfnobkcnopmfnaaDoorNList
import Derived.Test.YtfnobkcnopmfnaaDoorNRefParse
import Derived.Outline
namespace Go.Proofs.YtfnobkcnopmfnaaDoor
open Go Go.RowKit Go.Shelf Go.Sort

/-- The reference's way through a list's string: the numbers that have come, the bytes since the last comma, and the rest. -/
def rl : List Int → Bytes → Bytes → Option (List Int)
  | ns, cur, [] => match numParse cur with | none => none | some n => some (ns ++ [n])
  | ns, cur, c :: r => if c = 44 then (match numParse cur with | none => none | some n => rl (ns ++ [n]) [] r) else rl ns (cur ++ [c]) r
theorem rl_parts (l : Bytes) : ∀ ns cur h t, parts 44 l = h :: t → rl ns cur l = (allNums ((cur ++ h) :: t)).map (ns ++ ·) := by
  induction l with
  | nil =>
    intro ns cur h t e
    rw [parts] at e
    cases e
    rw [rl, List.append_nil, allNums, allNums]
    cases numParse cur <;> rfl
  | cons c r ih =>
    intro ns cur h t e
    rw [parts] at e
    rw [rl]
    obtain ⟨h', t', hp, -⟩ := parts_back 44 r
    by_cases hc : c = 44
    · rw [if_pos hc] at e ⊢
      cases e
      rw [List.append_nil, allNums]
      cases numParse cur with
      | none => rfl
      | some n =>
        simp only
        rw [ih _ _ _ _ hp, hp, List.nil_append]
        cases allNums (h' :: t') with
        | none => rfl
        | some l => simp
    · rw [if_neg hc] at e ⊢
      rw [hp] at e
      simp only at e
      cases e
      rw [ih _ _ _ _ hp, List.append_assoc]
      rfl
theorem rl_start (s : Bytes) (h : s ≠ []) : rl [] [] s = numList s := by
  obtain ⟨p, t, hp, -⟩ := parts_back 44 s
  rw [rl_parts s _ _ _ _ hp]
  unfold numList
  rw [if_neg h, hp, List.nil_append]
  cases allNums (p :: t) <;> rfl
theorem take_more (l : Bytes) (f k : Nat) (c : UInt8) (r : Bytes) (hf : f ≤ k) (h : l.drop k = c :: r) : (l.drop f).take (k + 1 - f) = (l.drop f).take (k - f) ++ [c] := by
  rw [show k + 1 - f = (k - f) + 1 by omega, List.take_add_one]
  congr 1
  rw [List.getElem?_drop, show f + (k - f) = k by omega]
  have : (l.drop k)[0]? = some c := by rw [h]; rfl
  rw [List.getElem?_drop] at this
  rw [show k = k + 0 by omega, this]
  rfl

/-- Where the loop stands. -/
structure RlAt (s : Bytes) (ns : List Int) (f k : Nat) : Prop where
  on : k ≤ s.length → rl ns ((s.drop f).take (k - f)) (s.drop k) = numList s
  over : k = s.length + 1 → numList s = some ns
  few : ns.length ≤ k

set_option maxHeartbeats 1000000 in
theorem list_ref_empty (w : World) : Calls Tryd.prog 15 #[.string ⟨#[]⟩] w (ListIs w []) := by
  have e1 : (ByteArray.mk #[]).toList = [] := by rw [Lib.toList_data]
  go_enter Tryd.func15, Tryd.ntmps15
  go_wp2_with fail
  go_loop [4, 6] (fun v i => v = .slice none 0 0 ∧ i = .int .i64 0) (fun _ _ => 0)
  case atStart => exact ⟨rfl, rfl⟩
  case round =>
    obtain ⟨rfl, rfl⟩ := hrel
    go_wp2_with fail
    go_ret2
    exact ⟨_, rfl, ⟨.inl ⟨rfl, rfl⟩⟩, Below.refl _ _⟩

set_option maxRecDepth 100000 in
set_option maxHeartbeats 4000000 in
theorem list_ref_some (s : ByteArray) (hne : s.data.toList ≠ []) (hs : s.size ≤ 1000000) (w : World) : Calls Tryd.prog 15 #[.string s] w (ListIs w s.data.toList) := by
  have e1 : s.toList.isEmpty = false := by rw [Lib.toList_data]; simpa using hne
  obtain ⟨i0, hi, hz0, hz1, hz2⟩ := info_parts info_i64
  have hst : RlAt s.data.toList [] 0 0 := ⟨fun _ => rl_start _ hne, fun h => by omega, by simp⟩
  have HST := Lib.hid hst
  clear hst hne
  go_enter Tryd.func15, Tryd.ntmps15
  go_wp2_with fail
  go_loopw [4, 5, 6] (fun v a i wr => ∃ (k f : Nat) (ns : List Int), k ≤ s.size + 1 ∧ f ≤ k ∧ i = .int .i64 k ∧ a = .int .i64 f ∧ Hid (wr.ownsRow w.heap.size 2 1 v ns.length (ns.map (Value.int .i64))) ∧ Hid (Below w.heap.size w wr) ∧ Hid (RlAt s.data.toList ns f k)) (fun _ _ i _ => s.size + 1 - (intOf i).toNat)
  case atStart => exact ⟨0, 0, [], by omega, by omega, rfl, rfl, World.ownsRow_nil _ _ _ _, Below.refl _ _, HST⟩
  case round =>
    obtain ⟨k, f, ns, hk, hf, rfl, rfl, hrow, hB, hat⟩ := hrel
    clear HST
    have hlen : s.data.toList.length = s.size := (Lib.size_eq s).symm
    by_cases hle : k ≤ s.size
    · have hon := hat.out.on (by omega)
      have hfew := hat.out.few
      clear hat
      by_cases hlt : k < s.size
      · have hd : s.data.toList.drop k = s[k] :: s.data.toList.drop (k + 1) := by
          rw [List.drop_eq_getElem_cons (by omega)]; rfl
        rw [hd, rl] at hon
        by_cases hc : s[k] = 44
        · have hcb : ((s[k].toNat : Int) == 44) = true := by rw [hc]; rfl
          have hcb2 : ((s[k].toNat : Int) != 44) = false := by rw [hc]; rfl
          rw [if_pos hc] at hon
          clear hc hd hle
          have C := fun W => parse_ref (s.extract f k) (by rw [Lib.extract_eq]; show (B _).data.toList.length ≤ _; simp; omega) W
          have ex : (s.extract f k).data.toList = (s.data.toList.drop f).take (k - f) := by rw [Lib.extract_eq]
          rw [ex] at C
          cases hp : numParse ((s.data.toList.drop f).take (k - f)) with
          | none =>
            rw [hp] at C hon
            simp only [encN, encE] at C hon
            have HC := Lib.hid C
            have HO := Lib.hid hon.symm
            clear C hon hp ex hfew hlen
            go_wp2_with fail
            refine (HC.out _).mono ?_
            rintro e w' ⟨rfl, rfl⟩
            go_wp2_with fail
            go_ret2
            exact ⟨_, by rw [HO.out]; rfl, by rw [HO.out]; exact ⟨.inl ⟨rfl, rfl⟩⟩, hB.out⟩
          | some n =>
            rw [hp] at C hon
            simp only [encN, encE] at C hon
            have HC := Lib.hid C
            have HN := Lib.hid (show RlAt s.data.toList (ns ++ [n]) (k + 1) (k + 1) from ⟨fun _ => by rw [Nat.sub_self]; exact hon, fun h => by omega, by simp; omega⟩)
            have hl1 : ns.length + 1 ≤ 1000001 := by omega
            clear C hon hp ex hfew hlen
            go_wp2_with fail
            refine (HC.out _).mono ?_
            clear HC
            rintro e w' ⟨rfl, rfl⟩
            have hsz : w.heap.size ≤ wr.heap.size := hB.out.size
            go_wp2_with (at_builtin; go_loud (refine wpList_append_own _ rfl (.tmp 40) (.tmp 42) 26 rfl w.heap.size 2 i0 (.int .i64 0) 1 8 Tryd.underlying26 hi hz0 hz1 hz2 rfl (by decide) u4 ns.length (ns.map (Value.int .i64)) rfl (hrow.out.alloc _) ⟨wr.heap.size, 0, none⟩ 1 1 [.int .i64 n] rfl rfl (cell_one_new _ _ _) (by simp [Value.oneCell']) (by unfold maxLen; omega) (by omega) (by simp; omega) ?_; intro v1 w3 hown1 hgrow1 hnil1; clear hnil1))
            have HW := Lib.hid (show w3.ownsRow w.heap.size 2 1 v1 (ns ++ [n]).length ((ns ++ [n]).map (Value.int .i64)) by rw [List.length_append, List.map_append]; exact hown1)
            have HB3 := Lib.hid ((hB.out.alloc hsz (.cells #[.int .i64 n] 2)).grown hgrow1 (by simp; omega) (fun q e => row_block hrow.out q e))
            clear hown1 hgrow1 hrow hB
            go_wp2_with fail
            go_roundw
            case rel => exact ⟨k + 1, k + 1, ns ++ [n], by omega, by omega, by go_num, by go_num, HW, HB3, HN⟩
            case measure => simp [intOf] <;> omega
        · have hn44 : s[k].toNat ≠ 44 := fun e => hc (by rw [← UInt8.toNat_inj]; exact e)
          have hcb : ((s[k].toNat : Int) == 44) = false := by rw [beq_eq_false_iff_ne]; omega
          have hcb2 : ((s[k].toNat : Int) != 44) = true := by simp [bne, hcb]
          rw [if_neg hc, ← take_more _ f k _ _ hf hd] at hon
          have HN := Lib.hid (show RlAt s.data.toList ns f (k + 1) from ⟨fun _ => hon, fun h => by omega, by omega⟩)
          clear hon hd hn44 hc hfew hlen hle
          go_wp2_with fail
          go_roundw
          case rel => exact ⟨k + 1, f, ns, by omega, by omega, by go_num, by go_num, hrow, hB, HN⟩
          case measure => simp [intOf] <;> omega
      · obtain rfl : k = s.size := by omega
        rw [List.drop_of_length_le (l := s.data.toList) (i := s.size) (by omega), rl] at hon
        clear hle hlt
        have C := fun W => parse_ref (s.extract f s.size) (by rw [Lib.extract_eq]; show (B _).data.toList.length ≤ _; simp; omega) W
        have ex : (s.extract f s.size).data.toList = (s.data.toList.drop f).take (s.size - f) := by rw [Lib.extract_eq]
        rw [ex] at C
        cases hp : numParse ((s.data.toList.drop f).take (s.size - f)) with
        | none =>
          rw [hp] at C hon
          simp only [encN, encE] at C hon
          have HC := Lib.hid C
          have HO := Lib.hid hon.symm
          clear C hon hp ex hfew hlen
          go_wp2_with fail
          refine (HC.out _).mono ?_
          rintro e w' ⟨rfl, rfl⟩
          go_wp2_with fail
          go_ret2
          exact ⟨_, by rw [HO.out]; rfl, by rw [HO.out]; exact ⟨.inl ⟨rfl, rfl⟩⟩, hB.out⟩
        | some n =>
          rw [hp] at C hon
          simp only [encN, encE] at C hon
          have HC := Lib.hid C
          have HN := Lib.hid (show RlAt s.data.toList (ns ++ [n]) (s.size + 1) (s.size + 1) from ⟨fun h => by omega, fun _ => hon.symm, by simp; omega⟩)
          have hl1 : ns.length + 1 ≤ 1000001 := by omega
          clear C hon hp ex hfew hlen
          go_wp2_with fail
          refine (HC.out _).mono ?_
          clear HC
          rintro e w' ⟨rfl, rfl⟩
          have hsz : w.heap.size ≤ wr.heap.size := hB.out.size
          go_wp2_with (at_builtin; go_loud (refine wpList_append_own _ rfl (.tmp 40) (.tmp 42) 26 rfl w.heap.size 2 i0 (.int .i64 0) 1 8 Tryd.underlying26 hi hz0 hz1 hz2 rfl (by decide) u4 ns.length (ns.map (Value.int .i64)) rfl (hrow.out.alloc _) ⟨wr.heap.size, 0, none⟩ 1 1 [.int .i64 n] rfl rfl (cell_one_new _ _ _) (by simp [Value.oneCell']) (by unfold maxLen; omega) (by omega) (by simp; omega) ?_; intro v1 w3 hown1 hgrow1 hnil1; clear hnil1))
          have HW := Lib.hid (show w3.ownsRow w.heap.size 2 1 v1 (ns ++ [n]).length ((ns ++ [n]).map (Value.int .i64)) by rw [List.length_append, List.map_append]; exact hown1)
          have HB3 := Lib.hid ((hB.out.alloc hsz (.cells #[.int .i64 n] 2)).grown hgrow1 (by simp; omega) (fun q e => row_block hrow.out q e))
          clear hown1 hgrow1 hrow hB
          go_wp2_with fail
          go_roundw
          case rel => exact ⟨s.size + 1, s.size + 1, ns ++ [n], by omega, by omega, by go_num, by go_num, HW, HB3, HN⟩
          case measure => simp [intOf] <;> omega
    · obtain rfl : k = s.size + 1 := by omega
      have HO := Lib.hid (hat.out.over (by omega))
      clear hat hlen hle
      go_wp2_with fail
      go_ret2
      exact ⟨_, by rw [HO.out]; rfl, by rw [HO.out]; exact row_ints hrow.out, hB.out⟩
theorem list_ref (s : ByteArray) (hs : s.size ≤ 1000000) (w : World) : Calls Tryd.prog 15 #[.string s] w (ListIs w s.data.toList) := by
  by_cases hne : s.data.toList = []
  · obtain rfl : s = ⟨#[]⟩ := by
      have := B_list s
      rw [← this, hne]
    exact list_ref_empty w
  · exact list_ref_some s hne hs w
end Go.Proofs.YtfnobkcnopmfnaaDoor
