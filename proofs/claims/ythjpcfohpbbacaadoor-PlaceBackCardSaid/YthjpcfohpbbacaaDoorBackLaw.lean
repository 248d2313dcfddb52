/-
  rewindlaw01.PlaceBack returns true for every text and every two numbers: the law out of the walks.
-/
import Derived.Test.YthjpcfohpbbacaaDoorBack
import Derived.Test.YthjpcfohpbbacaaDoorCmp
namespace Go.Proofs.YthjpcfohpbbacaaDoor.back
open Go Go.RowKit Go.Proofs.YthjpcfohpbbacaaDoor

theorem law (s : ByteArray) (m n : Int) (hm : s.size ≤ 9223372036854775807) (m0 : 0 ≤ m) (m1 : m ≤ 65535) (n0 : 0 ≤ n) (n1 : n ≤ 65535) (w : World) (hG : Glob w) :
    Calls Tryd.prog 5 #[.string s, .int .u16 m, .int .u16 n] w fun e w' => e = .returned (.bool true) ∧ Below w.heap.size w w' := by
  by_cases hs : 200 < s.size
  · exact walk_long s m n hs hm w hG
  · have hs1 : s.size ≤ 200 := by omega
    have hs2 : s.size ≤ 9223372036854775800 := by omega
    have hsz : s.data.toList.length = s.size := (Lib.size_eq s).symm
    obtain ⟨a, hA, ha⟩ : ∃ a : Nat, m % ((s.size : Int) + 1) = a ∧ a ≤ s.size := by
      have h1 := Int.emod_nonneg m (show ((s.size : Int) + 1) ≠ 0 by omega)
      have h2 := Int.emod_lt_of_pos m (show (0 : Int) < (s.size : Int) + 1 by omega)
      exact ⟨(m % ((s.size : Int) + 1)).toNat, by omega, by omega⟩
    obtain ⟨b, hB, hb⟩ : ∃ b : Nat, n % ((s.size : Int) + 1) = b ∧ b ≤ s.size := by
      have h1 := Int.emod_nonneg n (show ((s.size : Int) + 1) ≠ 0 by omega)
      have h2 := Int.emod_lt_of_pos n (show (0 : Int) < (s.size : Int) + 1 by omega)
      exact ⟨(n % ((s.size : Int) + 1)).toNat, by omega, by omega⟩
    obtain ⟨r, hr, hrm, ra, rb⟩ := ofRow_some s.data.toList a (by omega) (by omega)
    obtain ⟨r2, hr2, hrm2, ra2, rb2⟩ := ofRow_some s.data.toList b (by omega) (by omega)
    obtain ⟨p, tl, hp⟩ := row_stands _ _ hrm
    obtain ⟨c, hc⟩ : ∃ c : Nat, a = r.start + c := ⟨a - r.start, by omega⟩
    have hend : r.start + r.text.length ≤ s.size := by
      obtain ⟨k, hk⟩ := List.getElem?_of_mem hrm
      have := rowsOf_end hk
      omega
    have hq : (r.num : Int) = 1 + (p.count 10 : Nat) := by have := hp.num; omega
    have hq2 : p.count 10 ≤ 200 := by have := List.count_le_length (a := (10 : UInt8)) (l := p); have := hp.start; omega
    have hO1 := fun W => of_calls s hs2 a (by omega) W
    have hO2 := fun W => of_calls s hs2 b (by omega) W
    have e1 : placeOf s.data.toList a = some (1 + ((p.count 10 : Nat) : Int), (c : Int) + 1) := by
      unfold placeOf
      rw [if_neg (by omega), hr]
      simp only [Option.map_some, Option.some.injEq, Prod.mk.injEq]
      exact ⟨hq, by omega⟩
    have e2 : placeOf s.data.toList b = some ((r2.num : Int), (b : Int) - r2.start + 1) := by
      unfold placeOf
      rw [if_neg (by omega), hr2]
      rfl
    rw [e1] at hO1
    rw [e2] at hO2
    have hrow : rowAt s.data.toList (1 + ((p.count 10 : Nat) : Int)) = some r := by rw [← hq]; exact rowAt_of _ _ hrm
    have hF := fun W => offset_calls s hs2 (1 + ((p.count 10 : Nat) : Int)) ((c : Int) + 1) (by omega) (by omega) W
    have e3 : placeOffset s.data.toList (1 + ((p.count 10 : Nat) : Int)) ((c : Int) + 1) = some (a : Int) := by
      unfold placeOffset
      rw [hrow]
      dsimp only
      rw [if_neg (by omega)]
      congr 1
      omega
    rw [e3] at hF
    have hL := fun W => line_calls s hs2 (1 + ((p.count 10 : Nat) : Int)) W
    have e4 : placeLine s.data.toList (1 + ((p.count 10 : Nat) : Int)) = some r.text := by
      unfold placeLine
      rw [hrow]; rfl
    rw [e4] at hL
    have hdrop : s.data.toList.drop (a - c) = r.text ++ tl := by
      rw [show a - c = p.length by rw [hp.start]; omega]
      have := congrArg (List.drop p.length) hp.parts
      rwa [List.append_assoc, List.drop_left] at this
    have hP : ∀ W, Calls Tryd.prog 26 #[.string (s.extract (a - c) s.size), .string (B r.text)] W fun e w' => e = .returned (.bool true) ∧ w' = W := fun W => by
      have h := Tryd.strings_HasPrefix (s.extract (a - c) s.size) (B r.text) W
      rw [Lib.extract_to_end, hdrop, show Lib.hasPrefix (r.text ++ tl) (B r.text).data.toList = true by simp [Lib.hasPrefix]] at h
      exact h
    have hP0 : c = a → ∀ W, Calls Tryd.prog 26 #[.string s, .string (B r.text)] W fun e w' => e = .returned (.bool true) ∧ w' = W := fun hca W => by
      have h := Tryd.strings_HasPrefix s (B r.text) W
      have hd0 := hdrop
      rw [hca, Nat.sub_self, List.drop_zero] at hd0
      rw [hd0, show Lib.hasPrefix (r.text ++ tl) (B r.text).data.toList = true by simp [Lib.hasPrefix]] at h
      exact h
    have hN : ∀ W, Calls Tryd.prog 27 #[.string (s.extract 0 a), .string ⟨#[10]⟩] W fun e w' => e = .returned (.int .i64 (p.count 10 : Nat)) ∧ w' = W := fun W => by
      have h := Tryd.strings_Count_one (s.extract 0 a) 10 W
      have hcnt : Lib.countByte (s.extract 0 a).data.toList 10 = p.count 10 := by
        rw [Lib.extract_data]
        unfold Lib.countByte
        have h1 : (s.data.toList.drop 0).take (a - 0) = p ++ r.text.take c := by
          rw [List.drop_zero, Nat.sub_zero, hc, ← hp.start]
          have := congrArg (List.take (p.length + c)) hp.parts
          rw [this, List.append_assoc, List.take_length_add_append, List.take_append, Nat.sub_eq_zero_of_le (by omega)]
          simp
        rw [h1, List.count_append, List.count_eq_zero.2 (fun h => hp.free (List.mem_of_mem_take h))]
        rfl
      rw [hcnt] at h
      exact h
    have h10 : c < a → ∀ h, s[a - c - 1]'h = 10 := fun hca hlt => by
      rcases hp.ahead with hp0 | ⟨p', hp0⟩
      · have := hp.start
        rw [hp0] at this
        simp at this
        omega
      · have hl : p.length = p'.length + 1 := by rw [hp0]; simp
        have hi : a - c - 1 = p'.length := by have := hp.start; omega
        have hg : s.data.toList[a - c - 1]? = some 10 := by
          rw [hi, hp.parts, hp0]
          simp
        have : s[a - c - 1]'hlt = s.data.toList[a - c - 1]'(by rw [hsz]; exact hlt) := rfl
        rw [this]
        exact (List.getElem?_eq_some_iff.1 hg).2
    have hcl : c ≤ r.text.length := by omega
    have hC := fun W => cmpP_calls (1 + ((p.count 10 : Nat) : Int)) ((c : Int) + 1) r2.num ((b : Int) - r2.start + 1) W
    rcases Nat.lt_trichotomy a b with hlt | heq | hgt
    · rw [cmpP_lt (by
        rcases rows_order _ _ _ a b hrm hrm2 (by omega) (by omega) hlt with h | h
        · left; omega
        · right; subst h; omega)] at hC
      by_cases h0 : c < a
      · exact walk_lt1 s m n hs1 m0 m1 n0 n1 a b c hA hB ha hb (by omega) r.text hcl (by omega) _ hq2 _ _ hlt h0 (h10 h0 _) hO1 hO2 hF hL hP hC hN w hG
      · exact walk_lt0 s m n hs1 m0 m1 n0 n1 a b c hA hB ha hb (by omega) r.text hcl (by omega) _ hq2 _ _ hlt (by omega) hO1 hO2 hF hL (hP0 (by omega)) hC hN w hG
    · obtain rfl : r2 = r := by
        subst heq
        rw [hr] at hr2
        exact (Option.some.inj hr2).symm
      rw [show cmpP (1 + ((p.count 10 : Nat) : Int)) ((c : Int) + 1) r2.num ((b : Int) - r2.start + 1) = 0 by
        rw [hq, show (b : Int) - r2.start + 1 = (c : Int) + 1 by omega]; exact cmpP_eq _ _] at hC
      by_cases h0 : c < a
      · exact walk_eq1 s m n hs1 m0 m1 n0 n1 a b c hA hB ha hb (by omega) r2.text hcl (by omega) _ hq2 _ _ heq h0 (h10 h0 _) hO1 hO2 hF hL hP hC hN w hG
      · exact walk_eq0 s m n hs1 m0 m1 n0 n1 a b c hA hB ha hb (by omega) r2.text hcl (by omega) _ hq2 _ _ heq (by omega) hO1 hO2 hF hL (hP0 (by omega)) hC hN w hG
    · rw [cmpP_gt (by
        rcases rows_order _ _ _ b a hrm2 hrm (by omega) (by omega) hgt with h | h
        · left; omega
        · right; subst h; omega)] at hC
      by_cases h0 : c < a
      · exact walk_gt1 s m n hs1 m0 m1 n0 n1 a b c hA hB ha hb (by omega) r.text hcl (by omega) _ hq2 _ _ hgt h0 (h10 h0 _) hO1 hO2 hF hL hP hC hN w hG
      · exact walk_gt0 s m n hs1 m0 m1 n0 n1 a b c hA hB ha hb (by omega) r.text hcl (by omega) _ hq2 _ _ hgt (by omega) hO1 hO2 hF hL (hP0 (by omega)) hC hN w hG
end Go.Proofs.YthjpcfohpbbacaaDoor.back
