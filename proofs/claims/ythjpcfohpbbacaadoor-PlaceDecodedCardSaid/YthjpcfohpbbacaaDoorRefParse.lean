/-
  rewindref01.Parse: its contract.
-/
import Derived.Test.YthjpcfohpbbacaaDoorRefText
import Derived.BigRegion
import Derived.Deep.RegionWith
import Derived.IntWalk
namespace Go.Proofs.YthjpcfohpbbacaaDoor
open Go Go.RowKit Go.Shelf Go.Sort

/-- The place whose string it is, from two numbers read. -/
def giveP (s : Bytes) (l c : Int) : Option (Int × Int) :=
  match placeText l c with
  | none => none
  | some t => if t = s then some (l, c) else none

theorem giveP_eq {s p r : Bytes} (hs : s = p ++ 58 :: r) (hp : (58 : UInt8) ∉ p) (l c : Int) :
    giveP s l c = if 1 ≤ l ∧ 1 ≤ c ∧ p = Lib.itoa l ∧ r = Lib.itoa c then some (l, c) else none := by
  unfold giveP placeText
  by_cases h : l < 1 ∨ c < 1
  · rw [if_pos h, if_neg (by omega)]
  · rw [if_neg h]
    simp only
    obtain ⟨a, rfl⟩ := Int.eq_ofNat_of_zero_le (show 0 ≤ l by omega)
    obtain ⟨b, rfl⟩ := Int.eq_ofNat_of_zero_le (show 0 ≤ c by omega)
    have hf := itoa_free a 58 (by unfold isDig; decide)
    by_cases ht : Lib.itoa (a : Int) ++ 58 :: Lib.itoa (b : Int) = s
    · rw [if_pos ht]
      have h1 := upTo_of (r := Lib.itoa (b : Int)) hf
      rw [ht, hs] at h1
      have h2 := upTo_of (r := r) hp
      rw [h2.1, h2.2] at h1
      rw [if_pos ⟨by omega, by omega, h1.1, by simpa using h1.2⟩]
    · rw [if_neg ht, if_neg]
      rintro ⟨_, _, e1, e2⟩
      exact ht (by rw [hs, e1, e2])

def refParse (s : Bytes) : Option (Int × Int) :=
  match behind 58 s with
  | none => none
  | some r => giveP s (readN 0 (upTo 58 s)) (readN 0 r)

theorem refParse_eq (s : Bytes) : refParse s = placeParse s := by
  have hsplit := upTo_behind 58 s
  have hfree := upTo_free 58 s
  have e : placeParse s = giveP s (placeNum (upTo 58 s)) (placeNum ((behind 58 s).getD [])) := rfl
  rw [e]
  unfold refParse
  cases hb : behind 58 s with
  | none =>
    simp only [Option.getD_none]
    have : placeNum [] = 0 := by decide
    rw [this]
    unfold giveP placeText
    rw [if_pos (by omega)]
  | some r =>
    rw [hb] at hsplit
    simp only at hsplit
    simp only [Option.getD_some]
    generalize upTo 58 s = p at *
    rw [giveP_eq hsplit hfree, giveP_eq hsplit hfree]
    have num : ∀ n : Nat, n ≤ 9223372036854775807 → placeNum (Lib.itoa (n : Int)) = n := fun n h => by unfold placeNum; rw [atoi_itoa n h]
    by_cases hA : 1 ≤ placeNum p ∧ 1 ≤ placeNum r ∧ p = Lib.itoa (placeNum p) ∧ r = Lib.itoa (placeNum r)
    · obtain ⟨a1, a2, a3, a4⟩ := hA
      have b1 := placeNum_bounds p
      have b2 := placeNum_bounds r
      obtain ⟨x, hx⟩ := Int.eq_ofNat_of_zero_le (show 0 ≤ placeNum p by omega)
      obtain ⟨y, hy⟩ := Int.eq_ofNat_of_zero_le (show 0 ≤ placeNum r by omega)
      rw [hx] at a3 a1 b1
      rw [hy] at a4 a2 b2
      have e1 : readN 0 p = x := by rw [a3]; exact readN_itoa x (by omega)
      have e2 : readN 0 r = y := by rw [a4]; exact readN_itoa y (by omega)
      rw [hx, hy, e1, e2]
    · rw [if_neg hA]
      by_cases hB : 1 ≤ (readN 0 p : Int) ∧ 1 ≤ (readN 0 r : Int) ∧ p = Lib.itoa (readN 0 p : Int) ∧ r = Lib.itoa (readN 0 r : Int)
      · exfalso
        obtain ⟨a1, a2, a3, a4⟩ := hB
        have e1 := num _ (readN_le p 0 (by omega))
        have e2 := num _ (readN_le r 0 (by omega))
        rw [← a3] at e1
        rw [← a4] at e2
        refine hA ⟨by omega, by omega, ?_, ?_⟩
        · rw [e1]; exact a3
        · rw [e2]; exact a4
      · rw [if_neg hB]

theorem free_next {s : ByteArray} {k : Nat} (h : k < s.size) (hf : (58 : UInt8) ∉ s.data.toList.take k) (hc : s[k] ≠ 58) : (58 : UInt8) ∉ s.data.toList.take (k + 1) := by
  have hk : k < s.data.toList.length := by rw [← Lib.size_eq]; exact h
  rw [List.take_succ_eq_append_getElem hk, List.mem_append, List.mem_singleton]
  rintro (h1 | h1)
  · exact hf h1
  · exact hc h1.symm
theorem found_here {s : ByteArray} {k : Nat} (h : k < s.size) (hf : (58 : UInt8) ∉ s.data.toList.take k) (hc : s[k] = 58) :
    refParse s.data.toList = giveP s.data.toList (readN 0 (s.data.toList.take k)) (readN 0 (s.data.toList.drop (k + 1))) := by
  have hk : k < s.data.toList.length := by rw [← Lib.size_eq]; exact h
  have e : s.data.toList = s.data.toList.take k ++ 58 :: s.data.toList.drop (k + 1) := by
    conv => lhs; rw [← List.take_append_drop k s.data.toList, List.drop_eq_getElem_cons hk]
    congr 2
  have u := upTo_of (r := s.data.toList.drop (k + 1)) hf
  rw [← e] at u
  unfold refParse
  rw [u.1, u.2]
theorem found_not {s : ByteArray} (hf : (58 : UInt8) ∉ s.data.toList) : refParse s.data.toList = none := by
  unfold refParse
  rw [(upTo_self hf).2]
theorem bytes_take (s : ByteArray) (k : Nat) : (s.extract 0 k).data.toList = s.data.toList.take k := by simp
theorem bytes_drop (s : ByteArray) (k : Nat) : (s.extract k s.size).data.toList = s.data.toList.drop k := by
  have h : (s.extract k s.size).data.toList = (s.data.toList.drop k).take (s.size - k) := by rw [ByteArray.data_extract, Array.toList_extract]
  rw [h, List.take_of_length_le (by rw [List.length_drop, Lib.size_eq]; exact Nat.le_refl _)]

set_option maxRecDepth 100000 in
theorem end_of_ref {x : Option (Int × Int)} {w W : World} {t : Array Value} {v0 v1 ev u0 u1 : Value} (hb : Below w.heap.size w W)
    (ht2 : t[2]? = some (.pointer (some ⟨w.heap.size, 0, none⟩))) (ht3 : t[3]? = some ev)
    (q0 : Cell W ⟨w.heap.size, 0, none⟩ u0) (q1 : Cell W ⟨w.heap.size, 1, none⟩ u1) (hv : encP x = .agg #[v0, v1]) (hev : encE 7 x = ev) :
    bodyPost Tryd.prog Tryd.f23 (fun e w' => e = Ending.returned (.tuple #[encP x, encE 7 x]) ∧ Below w.heap.size w w') Exit.ret
      { tmps := t, defers := [] } ((W.setCell ⟨w.heap.size, 0, none⟩ v0).setCell ⟨w.heap.size, 1, none⟩ v1) := by
  have h0 := (q0.set v0).setOther (q := ⟨w.heap.size, 1, none⟩) (by intro h; cases h) v1
  have h1 := (q1.setOther (q := ⟨w.heap.size, 0, none⟩) (by intro h; cases h) v0).set v1
  have hb2 := (hb.setCell (p := ⟨w.heap.size, 0, none⟩) (Nat.le_refl _) v0).setCell (p := ⟨w.heap.size, 1, none⟩) (Nat.le_refl _) v1
  generalize (W.setCell ⟨w.heap.size, 0, none⟩ v0).setCell ⟨w.heap.size, 1, none⟩ v1 = W2 at *
  obtain ⟨h0, _⟩ := h0
  obtain ⟨h1, _⟩ := h1
  rw [hv, hev]
  refine bodyPost_ret (v := .tuple #[.agg #[v0, v1], ev]) ?_ rfl ⟨rfl, hb2⟩
  simp [results, Tryd.results23, go_sem, h0, h1, ht2, ht3]

set_option maxRecDepth 100000 in
set_option maxHeartbeats 4000000 in
theorem parse_ref (s : ByteArray) (hs : s.size ≤ 1000) (w : World) :
    Calls Tryd.prog 23 #[.string s] w fun e w' => e = .returned (.tuple #[encP (placeParse s.data.toList), encE 7 (placeParse s.data.toList)]) ∧ Below w.heap.size w w' := by
  rw [← refParse_eq]
  have HS := Lib.hid hs
  clear hs
  go_enter Tryd.func23, Tryd.ntmps23
  go_wp2_with fail
  have o1 : OnWay w (w.alloc (.cells #[.int .i64 0, .int .i64 0] 24)) :=
    ⟨(Below.refl _ w).alloc (Nat.le_refl _) _, Cell.new w _ 24 0 _ rfl, Cell.new w _ 24 1 _ rfl, by simp⟩
  generalize w.alloc (.cells #[.int .i64 0, .int .i64 0] 24) = w1 at *
  have O1 := Lib.hid o1
  clear o1
  go_loop [4] (fun i => ∃ k : Nat, k ≤ s.size ∧ i = .int .i64 k ∧ Hid ((58 : UInt8) ∉ s.data.toList.take k)) (fun i => s.size - (intOf i).toNat)
  case atStart => exact ⟨0, Nat.zero_le _, rfl, Lib.hid (by simp)⟩
  case round =>
    obtain ⟨k, hk, rfl, hR⟩ := hrel
    by_cases hlt : k < s.size
    · by_cases hc : s[k] = 58
      · have hf := found_here hlt hR.out hc
        have hss := HS.out
        have hcb : ((s[k].toNat : Int) == 58) = true := by rw [hc]; rfl
        have hN : ∀ (a b : Nat) (W : World), Calls Tryd.prog 38 #[.string (s.extract a b)] W fun e W' => e = .returned (.int .i64 (readN 0 (s.extract a b).data.toList)) ∧ W = W' := by
          intro a b W
          have h : (s.extract a b).size ≤ s.size := by rw [ByteArray.size_extract]; omega
          exact number_ref (s.extract a b) (by omega) W
        have hN1 := hN 0 k
        have hN2 := hN (k + 1) s.size
        rw [bytes_take] at hN1
        rw [bytes_drop] at hN2
        have l1 := readN_le (s.data.toList.take k) 0 (by omega)
        have c1 := readN_le (s.data.toList.drop (k + 1)) 0 (by omega)
        generalize readN 0 (s.data.toList.take k) = l at *
        generalize readN 0 (s.data.toList.drop (k + 1)) = c at *
        have HT := Lib.hid (fun W => text_ref (l : Int) (c : Int) (by omega) (by omega) W)
        have O2 := Lib.hid (O1.out.next ((Below.refl _ w1).alloc (Nat.le_refl _) (.cells #[.int .i64 l, .int .i64 c] 24)))
        have O3 : Hid (OnWay w (w1.alloc (.cells #[.int .i64 l, .int .i64 c] 24)).drew) := Lib.hid (O2.out.next (below_drewN (Below.refl _ _) 1))
        have Q0 : Hid (Cell (w1.alloc (.cells #[.int .i64 l, .int .i64 c] 24)).drew ⟨w1.heap.size, 0, none⟩ (.int .i64 l)) := Lib.hid ((Cell.new w1 _ 24 0 _ rfl).below (below_drewN (Below.refl (w1.heap.size + 1) _) 1) (by simp))
        have Q1 : Hid (Cell (w1.alloc (.cells #[.int .i64 l, .int .i64 c] 24)).drew ⟨w1.heap.size, 1, none⟩ (.int .i64 c)) := Lib.hid ((Cell.new w1 _ 24 1 _ rfl).below (below_drewN (Below.refl (w1.heap.size + 1) _) 1) (by simp))
        unfold giveP at hf
        generalize placeText (l : Int) (c : Int) = t at *
        have HF := Lib.hid hf
        have HZ : Hid (w1.heap.size < (w1.alloc (.cells #[.int .i64 l, .int .i64 c] 24)).drew.heap.size) := Lib.hid (by simp)
        clear O2 hN hf hR l1 c1
        go_wp2_with fail
        have e1 : IntKind.i64.wrap ((k : Int) + 1) = (k : Int) + 1 := IntWalk.i64_in _ (by omega)
        have e2 : (0 : Int) ≤ (k : Int) + 1 := by omega
        have e3 : ((k : Int) + 1).toNat = k + 1 := by omega
        have e4 : (k : Int) + 1 ≤ (s.size : Int) := by omega
        go_region_with (go_at_call 38; first | (with_reducible refine (hN1 _).mono ?_; rintro e w' ⟨rfl, rfl⟩) | (with_reducible refine (hN2 _).mono ?_; rintro e w' ⟨rfl, rfl⟩))
        all_goals clear e1 e2 e3 e4 hN1 hN2
        all_goals generalize (w1.alloc (.cells #[.int .i64 l, .int .i64 c] 24)).drew = w2 at *
        all_goals have q0 := Q0.out.1
        all_goals have q1 := Q1.out.1
        all_goals go_wp2_with fail
        all_goals refine (HT.out _).mono ?_
        all_goals clear HT
        all_goals rintro e w5 ⟨rfl, hb⟩
        all_goals have O5 := Lib.hid (O3.out.next hb)
        all_goals have p0 : w5.cell? ⟨w1.heap.size, 0, none⟩ = some (.int .i64 l) := (Q0.out.below hb HZ.out).1
        all_goals have p1 : w5.cell? ⟨w1.heap.size, 1, none⟩ = some (.int .i64 c) := (Q1.out.below hb HZ.out).1
        all_goals have hz := O1.out.size
        all_goals clear hb O3 Q0 Q1 HZ q0 q1
        all_goals obtain ⟨d0, f0⟩ := O5.out.c0
        all_goals obtain ⟨d1, f1⟩ := O5.out.c1
        all_goals cases t with
          | none =>
            have hf := HF.out
            dsimp only at hf
            dsimp only [encS, encE]
            go_wp2_with fail
            exact end_of_ref (x := none) O5.out.below rfl rfl ⟨d0, f0⟩ ⟨d1, f1⟩ rfl rfl
          | some t =>
            by_cases ht : t = s.data.toList
            · have hf := HF.out
              dsimp only at hf
              rw [if_pos ht] at hf
              have htb : (t == s.toList) = true := by rw [Lib.toList_data]; exact beq_iff_eq.2 ht
              clear ht
              dsimp only [encS, encE]
              go_wp2_with fail
              exact end_of_ref (x := some ((l : Int), (c : Int))) O5.out.below rfl rfl ⟨d0, f0⟩ ⟨d1, f1⟩ rfl rfl
            · have hf := HF.out
              dsimp only at hf
              rw [if_neg ht] at hf
              have htb : (t == s.toList) = false := by rw [Lib.toList_data]; exact beq_eq_false_iff_ne.2 ht
              clear ht
              dsimp only [encS, encE]
              go_wp2_with fail
              exact end_of_ref (x := none) O5.out.below rfl rfl ⟨d0, f0⟩ ⟨d1, f1⟩ rfl rfl
      · have hf := free_next hlt hR.out hc
        have hcb : ((s[k].toNat : Int) == 58) = false := beq_eq_false_iff_ne.2 (fun h => hc (UInt8.toNat_inj.1 (by show s[k].toNat = 58; omega)))
        have HF := Lib.hid hf
        have hss := HS.out
        clear hR hf
        go_wp2_with fail
        go_round
        case rel => exact ⟨k + 1, by omega, by go_num, HF.out⟩
        case measure => simp [intOf]; omega
    · obtain rfl : k = s.size := by omega
      have hR2 := hR.out
      rw [List.take_of_length_le (by rw [← Lib.size_eq]; exact Nat.le_refl _)] at hR2
      have hf := found_not hR2
      obtain ⟨d0, f0⟩ := O1.out.c0
      obtain ⟨d1, f1⟩ := O1.out.c1
      go_wp2_with fail
      exact end_of_ref (x := none) O1.out.below rfl rfl ⟨d0, f0⟩ ⟨d1, f1⟩ rfl rfl
end Go.Proofs.YthjpcfohpbbacaaDoor
