/-
  rewindlaw01.PlaceRefuses returns true for every text and every number: the law out of the walks.
-/
import Derived.Test.YthjpcfohpbbacaaDoorRefuses
namespace Go.Proofs.YthjpcfohpbbacaaDoor.refuses
open Go Go.RowKit Go.Proofs.YthjpcfohpbbacaaDoor

theorem law (s : ByteArray) (m : Int) (hm : s.size ≤ 9223372036854775807) (m0 : 0 ≤ m) (m1 : m ≤ 65535) (w : World) (hG : Glob w) :
    Calls Tryd.prog 10 #[.string s, .int .u16 m] w fun e w' => e = .returned (.bool true) ∧ Below w.heap.size w w' := by
  by_cases hs : 100 < s.size
  · exact walk_long s m hs hm w hG
  · have hs1 : s.size ≤ 100 := by omega
    have hs2 : s.size ≤ 9223372036854775800 := by omega
    have hsz : s.data.toList.length = s.size := (Lib.size_eq s).symm
    have hn := lines_length_le s.data.toList
    rw [hsz] at hn
    refine walk s m hs1 m0 m1 (lines s.data.toList).length (by omega) ?_ (fun W => count_calls s hs2 W) ?_ ?_ ?_ w hG
    · intro k hk W
      have key : ∀ o : Int, (o < 0 ∨ (s.size : Int) < o) → o ≤ 9223372036854775807 → Calls Tryd.prog 12 #[.string s, .int .i64 o] W fun e w' => e = .returned (.tuple #[.agg #[.int .i64 0, .int .i64 0], .int .i64 3]) ∧ Below W.heap.size W w' := fun o h1 h2 => by
        have h := of_calls s hs2 o h2 W
        have e : placeOf s.data.toList o = none := by
          unfold placeOf
          by_cases h0 : o < 0
          · rw [if_pos h0]
          · rw [if_neg h0, ofRow_none _ _ (by omega)]; rfl
        rw [e] at h
        exact h
      obtain rfl | rfl | rfl | rfl : k = 0 ∨ k = 1 ∨ k = 2 ∨ k = 3 := by omega
      · exact key (-1 - m) (by omega) (by omega)
      · exact key (s.size + 1 + m) (by omega) (by omega)
      · exact key 9223372036854775807 (by omega) (by omega)
      · exact key (-9223372036854775808) (by omega) (by omega)
    · intro k hk W
      have key : ∀ o : Int, (o < 1 ∨ ((lines s.data.toList).length : Int) < o) → Calls Tryd.prog 16 #[.string s, .int .i64 o] W fun e w' => e = .returned (.tuple #[.string ⟨#[]⟩, .int .i64 3]) ∧ Below W.heap.size W w' := fun o h1 => by
        have h := line_calls s hs2 o W
        have e : placeLine s.data.toList o = none := by
          unfold placeLine
          rw [rowAt_none _ _ h1]; rfl
        rw [e] at h
        exact h
      obtain rfl | rfl | rfl | rfl : k = 0 ∨ k = 1 ∨ k = 2 ∨ k = 3 := by omega
      · exact key (-m) (by omega)
      · exact key ((lines s.data.toList).length + 1 + m) (by omega)
      · exact key 9223372036854775807 (by omega)
      · exact key (-9223372036854775808) (by omega)
    · intro k hk W
      have key : ∀ o : Int, (o < 1 ∨ ((lines s.data.toList).length : Int) < o) → Calls Tryd.prog 14 #[.string s, .agg #[.int .i64 o, .int .i64 1]] W fun e w' => e = .returned (.tuple #[.int .i64 0, .int .i64 3]) ∧ Below W.heap.size W w' := fun o h1 => by
        have h := offset_calls s hs2 o 1 (by omega) (by omega) W
        have e : placeOffset s.data.toList o 1 = none := by
          unfold placeOffset
          rw [rowAt_none _ _ h1]
        rw [e] at h
        exact h
      obtain rfl | rfl | rfl | rfl : k = 0 ∨ k = 1 ∨ k = 2 ∨ k = 3 := by omega
      · exact key (-m) (by omega)
      · exact key ((lines s.data.toList).length + 1 + m) (by omega)
      · exact key 9223372036854775807 (by omega)
      · exact key (-9223372036854775808) (by omega)
    · intro k hk W hG
      have key : ∀ l c : Int, (l < 1 ∨ c < 1) → l ≤ 1 → c ≤ 1 → Calls Tryd.prog 20 #[.agg #[.int .i64 l, .int .i64 c]] W fun e w' => e = .returned (.tuple #[.string ⟨#[]⟩, .int .i64 2]) ∧ Below W.heap.size W w' := fun l c h1 h2 h3 => by
        have h := text_calls l c (by omega) (by omega) W hG
        rw [show placeText l c = none by unfold placeText; rw [if_pos h1]] at h
        exact h
      obtain rfl | rfl | rfl : k = 0 ∨ k = 1 ∨ k = 2 := by omega
      · exact key (-m) 1 (by omega) (by omega) (by omega)
      · exact key 1 (-m) (by omega) (by omega) (by omega)
      · exact key 0 0 (by omega) (by omega) (by omega)
end Go.Proofs.YthjpcfohpbbacaaDoor.refuses
