/-
  rewindlaw01.PlaceDecoded returns true for every two numbers and every byte: the law out of the walks.
-/
import Derived.Test.YthjpcfohpbbacaaDoorDecoded
import Derived.Lib.SplitLaws
namespace Go.Proofs.YthjpcfohpbbacaaDoor.decoded
open Go Go.RowKit Go.Proofs.YthjpcfohpbbacaaDoor

/-- Parse at a text that is no place's. -/
theorem bad_calls (t : Bytes) (ht : t.length ≤ 1000) (h : placeParse t = none) (s : ByteArray) (hs : s = B t) (W : World) (hG : Glob W) :
    Calls Tryd.prog 22 #[.string s] W fun e w' => e = .returned (.tuple #[.agg #[.int .i64 0, .int .i64 0], .int .i64 7]) ∧ Below W.heap.size W w' := by
  subst hs
  have h1 := parse_calls (B t) (by rw [Lib.size_eq]; show t.length ≤ _; omega) W hG
  rw [show (B t).data.toList = t from rfl, h] at h1
  exact h1
theorem good_calls (t : Bytes) (ht : t.length ≤ 1000) (l c : Int) (h : placeParse t = some (l, c)) (s : ByteArray) (hs : s = B t) (W : World) (hG : Glob W) :
    Calls Tryd.prog 22 #[.string s] W fun e w' => e = .returned (.tuple #[.agg #[.int .i64 l, .int .i64 c], .int .i64 0]) ∧ Below W.heap.size W w' := by
  subst hs
  have h1 := parse_calls (B t) (by rw [Lib.size_eq]; show t.length ≤ _; omega) W hG
  rw [show (B t).data.toList = t from rfl, h] at h1
  exact h1
theorem replace_calls (p r new : Bytes) (hp : (58 : UInt8) ∉ p) (hn : new ≠ [58]) (hlen : p.length + r.length ≤ 1000) (hl2 : new.length ≤ 1000) (W : World) (hG : GlobM W) :
    Calls Tryd.prog 30 #[.string (B (p ++ 58 :: r)), .string ⟨#[58]⟩, .string (B new), .int .i64 1] W fun e w' => e = .returned (.string (B (p ++ new ++ r))) ∧ Below W.heap.size W w' := by
  obtain ⟨m, hm⟩ := hG.max
  have hsz : (B (p ++ 58 :: r)).size = p.length + r.length + 1 := by rw [Lib.size_eq]; show (p ++ 58 :: r).length = _; simp; omega
  have hns : (B new).size = new.length := by rw [Lib.size_eq]
  have hcb := Lib.countB_le ⟨#[58]⟩ (by decide) _ (B (p ++ 58 :: r)) (Nat.le_refl _)
  have hmul : Lib.countB (B (p ++ 58 :: r)) ⟨#[58]⟩ * (B new).size ≤ 1001 * 1000 := Nat.mul_le_mul (by omega) (by omega)
  have h := Tryd.strings_Replace (B (p ++ 58 :: r)) ⟨#[58]⟩ (B new) 1 m W (by omega) hm (by decide) (by omega)
  rw [show (B (p ++ 58 :: r)).data.toList = p ++ 58 :: r from rfl, show (⟨#[58]⟩ : ByteArray).data.toList = [58] from rfl, show (B new).data.toList = new from rfl, replace_one hp hn] at h
  exact h

set_option maxRecDepth 100000 in
theorem law (x0 x1 x2 : Int) (ha0 : 0 ≤ x0) (ha1 : x0 ≤ 4294967295) (hb0 : 0 ≤ x1) (hb1 : x1 ≤ 4294967295) (hc0 : 0 ≤ x2) (hc1 : x2 ≤ 255) (w : World) (hG : GlobM w) :
    Calls Tryd.prog 8 #[.int .u32 x0, .int .u32 x1, .int .u8 x2] w fun e w' => e = .returned (.bool true) ∧ Below w.heap.size w w' := by
  obtain ⟨a, rfl⟩ := Int.eq_ofNat_of_zero_le ha0
  obtain ⟨b, rfl⟩ := Int.eq_ofNat_of_zero_le hb0
  obtain ⟨c', rfl⟩ := Int.eq_ofNat_of_zero_le hc0
  obtain ⟨c, hc⟩ : ∃ c : UInt8, c.toNat = c' := ⟨UInt8.ofNat c', by rw [UInt8.toNat_ofNat']; omega⟩
  subst hc
  have el : (1 + (a : Int)) = ((a + 1 : Nat) : Int) := by omega
  have em : (1 + (b : Int)) = ((b + 1 : Nat) : Int) := by omega
  have n1 := itoa_length ((a + 1 : Nat) : Int) (by omega) (by omega)
  have n2 := itoa_length ((b + 1 : Nat) : Int) (by omega) (by omega)
  have f1 := itoa_free (a + 1) 58 (by unfold isDig; decide)
  have hgood : placeParse (Lib.itoa ((a + 1 : Nat) : Int) ++ 58 :: Lib.itoa ((b + 1 : Nat) : Int)) = some (1 + (a : Int), 1 + (b : Int)) := by
    rw [el, em]; exact parse_some (a + 1) (b + 1) (by omega) (by omega) (by omega) (by omega)
  have hT : ∀ W, Glob W → Calls Tryd.prog 20 #[.agg #[.int .i64 (1 + (a : Int)), .int .i64 (1 + (b : Int))]] W fun e w' => e = .returned (.tuple #[.string (B (Lib.itoa ((a + 1 : Nat) : Int) ++ 58 :: Lib.itoa ((b + 1 : Nat) : Int))), .int .i64 0]) ∧ Below W.heap.size W w' := by
    intro W hW
    have h := text_calls (1 + (a : Int)) (1 + (b : Int)) (by omega) (by omega) W hW
    rw [show placeText (1 + (a : Int)) (1 + (b : Int)) = some (Lib.itoa ((a + 1 : Nat) : Int) ++ 58 :: Lib.itoa ((b + 1 : Nat) : Int)) by
      unfold placeText; rw [if_neg (by omega), el, em]] at h
    exact h
  have hP := fun W hW => good_calls _ (by simp only [List.length_append, List.length_cons]; omega) _ _ hgood _ rfl W hW
  have hR0 := fun W hW => replace_calls (Lib.itoa ((a + 1 : Nat) : Int)) (Lib.itoa ((b + 1 : Nat) : Int)) [] f1 (by decide) (by omega) (by decide) W hW
  have hR1 := fun W hW => replace_calls (Lib.itoa ((a + 1 : Nat) : Int)) (Lib.itoa ((b + 1 : Nat) : Int)) [58, 48] f1 (by decide) (by omega) (by decide) W hW
  have hR2 := fun W hW => replace_calls (Lib.itoa ((a + 1 : Nat) : Int)) (Lib.itoa ((b + 1 : Nat) : Int)) [59] f1 (by decide) (by omega) (by decide) W hW
  have hS : (B (Lib.itoa ((a + 1 : Nat) : Int) ++ 58 :: Lib.itoa ((b + 1 : Nat) : Int))).size ≤ 100 := by rw [Lib.size_eq]; show (Lib.itoa ((a + 1 : Nat) : Int) ++ 58 :: Lib.itoa ((b + 1 : Nat) : Int)).length ≤ _; simp only [List.length_append, List.length_cons]; omega
  have hX : ∀ k : Nat, k < 8 → ∀ W, Glob W → Calls Tryd.prog 22 #[.string ((bads (B (Lib.itoa ((a + 1 : Nat) : Int) ++ 58 :: Lib.itoa ((b + 1 : Nat) : Int))) (B (Lib.itoa ((a + 1 : Nat) : Int) ++ [] ++ Lib.itoa ((b + 1 : Nat) : Int))) (B (Lib.itoa ((a + 1 : Nat) : Int) ++ [58, 48] ++ Lib.itoa ((b + 1 : Nat) : Int))) (B (Lib.itoa ((a + 1 : Nat) : Int) ++ [59] ++ Lib.itoa ((b + 1 : Nat) : Int)))).getD k default)] W fun e w' => e = .returned (.tuple #[.agg #[.int .i64 0, .int .i64 0], .int .i64 7]) ∧ Below W.heap.size W w' := by
    intro k hk W hW
    have ndig : ∀ x : UInt8, (x.toNat < 48 ∨ 57 < x.toNat) → ¬ isDig x := fun x h => by unfold isDig; omega
    have lead : ∀ x : UInt8, x ≠ 58 → ((∀ n : Nat, 1 ≤ n → x :: Lib.itoa ((a + 1 : Nat) : Int) ≠ Lib.itoa (n : Int))) → placeParse (x :: (Lib.itoa ((a + 1 : Nat) : Int) ++ 58 :: Lib.itoa ((b + 1 : Nat) : Int))) = none := fun x h1 h2 => by
      rw [← List.cons_append]
      exact parse_none (by simp only [List.mem_cons, not_or]; exact ⟨fun e => h1 e.symm, f1⟩) (.inl h2)
    have f2 := itoa_free (b + 1) 58 (by unfold isDig; decide)
    obtain rfl | rfl | rfl | rfl | rfl | rfl | rfl | rfl : k = 0 ∨ k = 1 ∨ k = 2 ∨ k = 3 ∨ k = 4 ∨ k = 5 ∨ k = 6 ∨ k = 7 := by omega
    · exact bad_calls _ (by simp only [List.length_append, List.length_cons]; omega) (lead 48 (by decide) (fun n h => itoa_ne_zero _ n h)) _ (B_append [48] _) W hW
    · exact bad_calls _ (by simp only [List.length_append, List.length_cons]; omega) (lead 43 (by decide) (fun n _ => itoa_ne_of (c := 43) (by simp) (ndig _ (by decide)) n)) _ (B_append [43] _) W hW
    · exact bad_calls _ (by simp only [List.length_append, List.length_cons]; omega) (lead 32 (by decide) (fun n _ => itoa_ne_of (c := 32) (by simp) (ndig _ (by decide)) n)) _ (B_append [32] _) W hW
    · refine bad_calls (Lib.itoa ((a + 1 : Nat) : Int) ++ 58 :: (Lib.itoa ((b + 1 : Nat) : Int) ++ [58, 49])) (by simp only [List.length_append, List.length_cons, List.length_nil]; omega) (parse_none f1 (.inr (fun n _ => itoa_ne_of (c := 58) (by simp) (ndig _ (by decide)) n))) _ ?_ W hW
      have h := B_append (Lib.itoa ((a + 1 : Nat) : Int) ++ 58 :: Lib.itoa ((b + 1 : Nat) : Int)) [58, 49]
      rw [List.append_assoc, List.cons_append] at h
      exact h
    · refine bad_calls ([] ++ 58 :: (Lib.itoa ((a + 1 : Nat) : Int) ++ 58 :: Lib.itoa ((b + 1 : Nat) : Int))) (by simp only [List.length_append, List.length_cons, List.length_nil]; omega) (parse_none (by simp) (.inl (fun n _ => itoa_ne_nil n))) _ (B_append [58] _) W hW
    · refine bad_calls _ (by simp only [List.length_append, List.length_nil]; omega) (parse_free ?_) _ rfl W hW
      rw [List.append_nil, List.mem_append]
      exact fun h => h.elim f1 f2
    · refine bad_calls (Lib.itoa ((a + 1 : Nat) : Int) ++ 58 :: (48 :: Lib.itoa ((b + 1 : Nat) : Int))) (by simp only [List.length_append, List.length_cons]; omega) (parse_none f1 (.inr (fun n h => itoa_ne_zero _ n h))) _ ?_ W hW
      show B _ = B _
      rw [List.append_assoc]; rfl
    · refine bad_calls _ (by simp only [List.length_append, List.length_cons, List.length_nil]; omega) (parse_free ?_) _ rfl W hW
      rw [List.mem_append, List.mem_append]
      exact fun h => h.elim (fun h => h.elim f1 (by simp)) f2
  have more : B (Lib.itoa ((a + 1 : Nat) : Int) ++ 58 :: Lib.itoa ((b + 1 : Nat) : Int)) ++ ⟨#[c]⟩ = B (Lib.itoa ((a + 1 : Nat) : Int) ++ 58 :: (Lib.itoa ((b + 1 : Nat) : Int) ++ [c])) := by
    have h := B_append (Lib.itoa ((a + 1 : Nat) : Int) ++ 58 :: Lib.itoa ((b + 1 : Nat) : Int)) [c]
    rw [List.append_assoc, List.cons_append] at h
    exact h
  by_cases hd : isDig c
  · have hd2 := hd
    unfold isDig at hd2
    have hm := itoa_more (b + 1) c (by omega) hd
    have hq : placeParse (Lib.itoa ((a + 1 : Nat) : Int) ++ 58 :: (Lib.itoa ((b + 1 : Nat) : Int) ++ [c])) = some (1 + (a : Int), 10 * (1 + (b : Int)) + ((c.toNat : Int) - 48)) := by
      rw [hm, el, show 10 * (1 + (b : Int)) + ((c.toNat : Int) - 48) = ((10 * (b + 1) + (c.toNat - 48) : Nat) : Int) by omega]
      exact parse_some (a + 1) (10 * (b + 1) + (c.toNat - 48)) (by omega) (by omega) (by omega) (by omega)
    have hQ := fun W hW => good_calls _ (by simp only [List.length_append, List.length_cons, List.length_nil]; omega) _ _ hq _ more W hW
    exact walkD a b c (by omega) (by omega) hd2.1 hd2.2 _ _ _ _ hS hT hP hQ hR0 hR1 hR2 hX w hG
  · have hq : placeParse (Lib.itoa ((a + 1 : Nat) : Int) ++ 58 :: (Lib.itoa ((b + 1 : Nat) : Int) ++ [c])) = none := parse_none f1 (.inr (fun n _ => itoa_ne_of (c := c) (by simp) hd n))
    have hQ := fun W hW => bad_calls _ (by simp only [List.length_append, List.length_cons, List.length_nil]; omega) hq _ more W hW
    unfold isDig at hd
    by_cases hlo : c.toNat < 48
    · exact walkL a b c (by omega) (by omega) hlo _ _ _ _ hS hT hP hQ hR0 hR1 hR2 hX w hG
    · exact walkG a b c (by omega) (by omega) (by omega) (by omega) _ _ _ _ hS hT hP hQ hR0 hR1 hR2 hX w hG
end Go.Proofs.YthjpcfohpbbacaaDoor.decoded
