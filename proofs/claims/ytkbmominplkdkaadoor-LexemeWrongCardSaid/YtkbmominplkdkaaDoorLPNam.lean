/-
  Piece.token: its contract.
-/
import Derived.Test.YtkbmominplkdkaaDoorLPTok
namespace Go.Proofs.YtkbmominplkdkaaDoor
open Go Go.RowKit Go.Sort

theorem ext_alph (d : Nat) (h : d < 5) : (⟨#[97, 90, 95, 48, 57]⟩ : ByteArray).extract d (d + 1) = B [alph.getD d 0] := by
  rcases (show d = 0 ∨ d = 1 ∨ d = 2 ∨ d = 3 ∨ d = 4 from by omega) with rfl | rfl | rfl | rfl | rfl <;> rfl
theorem pw_mod (b k d : Nat) (hd : d = b / 2 ^ k % 5) : ((b : Int) / 2 ^ k).tmod 5 = (d : Int) := by
  have h : ((b / 2 ^ k : Nat) : Int) = (b : Int) / 2 ^ k := by simp
  rw [← h]
  generalize b / 2 ^ k = X at *
  rw [Int.tmod_eq_emod_of_nonneg (by omega)]
  omega
set_option maxRecDepth 100000 in
set_option maxHeartbeats 4000000 in
theorem ptok_name (p : Pc) (hp : OkPc p) (hk : p.k % 4 = 0) (q : Bool) (c : Int) (hq : kwB (nameP p.b (p.n % 16)) = q) (hqc : (q = true ∧ c = 3) ∨ (q = false ∧ c = 1)) (w : World) (hG : Glob w) :
    Calls Tryd.prog 17 #[pcV p] w fun e w' => e = .returned (.agg #[.int .i64 c, .string (B (nameP p.b (p.n % 16))), .int .i64 0]) ∧ Below w.heap.size w w' := by
  obtain ⟨_, hn, _, hb⟩ := hp
  have e0 : (p.k : Int) % 4 = 0 := by omega
  have HB := Lib.hid (pw1_below w p)
  have C := reserved_calls (nameP p.b (p.n % 16)) (pw1 w p) (hG.below (pw1_below w p)).kw
  rw [hq] at C
  have C := Lib.hid C
  clear hq
  unfold pcV
  clear hG
  go_enter Tryd.func17, Tryd.ntmps17
  go_wp2_with fail
  go_loop [3, 4] (fun v i => ∃ k : Nat, k ≤ p.n % 16 ∧ i = .int .i64 k ∧ v = .string (B (nameP p.b k))) (fun _ i => p.n % 16 - (intOf i).toNat)
  case atStart => exact ⟨0, by omega, rfl, rfl⟩
  case round =>
    obtain ⟨k, hk2, rfl, rfl⟩ := hrel
    by_cases hlt : k < p.n % 16
    · have e1 : (k : Int) < (p.n : Int) % 16 := by omega
      obtain ⟨d, hd⟩ : ∃ d, d = p.b / 2 ^ k % 5 := ⟨_, rfl⟩
      have hd5 : d < 5 := by rw [hd]; exact Nat.mod_lt _ (by decide)
      have f0 : ((p.b : Int) / 2 ^ k).tmod 5 = (d : Int) := pw_mod p.b k d hd
      have HDD := Lib.hid hd
      have F0 := Lib.hid f0
      clear hd f0
      have f2 : wrap64 (d : Int) = (d : Int) := IntWalk.wrap64_in _ (by omega)
      have f3 : wrap64 ((d : Int) + 1) = (d : Int) + 1 := IntWalk.wrap64_in _ (by omega)
      have f4 : (0 : Int) ≤ (d : Int) := by omega
      have f5 : (d : Int) ≤ (d : Int) + 1 := by omega
      have f6 : (d : Int) + 1 ≤ 5 := by omega
      have f7 : (0 : Int) ≤ (d : Int) + 1 := by omega
      have f8 : ((d : Int) + 1).toNat = d + 1 := by omega
      obtain ⟨z, hz⟩ : ∃ z, z = alph.getD d 0 := ⟨_, rfl⟩
      have f9 := ext_alph d hd5
      rw [← hz] at f9
      have HN := Lib.hid (show nameP p.b (k + 1) = nameP p.b k ++ [z] by rw [nameP, ← HDD.out, ← hz])
      clear hz
      have hnl := nameP_len p.b k
      have f0 := F0.out
      clear F0 HDD
      go_wp2_with fail
      go_round
      case rel => exact ⟨k + 1, by omega, by go_num, by rw [HN.out, ← B_app]⟩
      case measure => simp [intOf]; omega
    · obtain rfl : k = p.n % 16 := by omega
      have e1 : ¬ ((p.n % 16 : Nat) : Int) < (p.n : Int) % 16 := by omega
      rcases hqc with ⟨rfl, rfl⟩ | ⟨rfl, rfl⟩
      · go_wp2_with fail
        refine C.out.mono ?_
        rintro e w1 ⟨rfl, rfl⟩
        go_wp2_with fail
        exact bodyPost_ret (v := .agg #[.int .i64 3, .string (B (nameP p.b (p.n % 16))), .int .i64 0]) (by simp [results, Tryd.results17, go_sem]) rfl ⟨rfl, ((Below.refl _ w).alloc (Nat.le_refl _) _).alloc (by simp) _⟩
      · go_wp2_with fail
        refine C.out.mono ?_
        rintro e w1 ⟨rfl, rfl⟩
        go_wp2_with fail
        exact bodyPost_ret (v := .agg #[.int .i64 1, .string (B (nameP p.b (p.n % 16))), .int .i64 0]) (by simp [results, Tryd.results17, go_sem]) rfl ⟨rfl, ((Below.refl _ w).alloc (Nat.le_refl _) _).alloc (by simp) _⟩
theorem ptok_calls (p : Pc) (hp : OkPc p) (w : World) (hG : Glob w) :
    Calls Tryd.prog 17 #[pcV p] w fun e w' => e = .returned (.agg #[.int .i64 (tokP p).1, .string (B (tokP p).2), .int .i64 0]) ∧ Below w.heap.size w w' := by
  unfold tokP
  rcases (show p.k % 4 = 0 ∨ p.k % 4 = 1 ∨ p.k % 4 = 2 ∨ p.k % 4 = 3 from by omega) with h | h | h | h
  · rw [if_pos h]
    cases hq : kwB (nameP p.b (p.n % 16)) with
    | true => exact ptok_name p hp h true 3 hq (.inl ⟨rfl, rfl⟩) w hG
    | false => exact ptok_name p hp h false 1 hq (.inr ⟨rfl, rfl⟩) w hG
  · rw [if_neg (by omega), if_pos h]
    exact ptok_num p hp h w
  · rw [if_neg (by omega), if_neg (by omega), if_pos h]
    exact ptok_kw p hp h w
  · rw [if_neg (by omega), if_neg (by omega), if_neg (by omega)]
    exact ptok_sig p hp h w hG
end Go.Proofs.YtkbmominplkdkaaDoor
