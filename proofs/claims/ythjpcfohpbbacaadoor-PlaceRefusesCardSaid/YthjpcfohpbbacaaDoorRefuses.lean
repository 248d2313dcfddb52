/-
  rewindlaw01.PlaceRefuses returns true for every text and every number. Conditions: the row's own (the library's tables and errors hold what their initialisers lay).
-/
import Derived.Test.YthjpcfohpbbacaaDoorFrame
import Derived.Test.YthjpcfohpbbacaaDoorMath
namespace Go.Proofs.YthjpcfohpbbacaaDoor.refuses
open Go Go.ChangeShapes Go.WideShapes Go.ChangeAt Go.RowKit Go.Joins Go.Proofs.YthjpcfohpbbacaaDoor

set_option maxRecDepth 100000 in
set_option maxHeartbeats 1000000 in
theorem walk_long (s : ByteArray) (a : Int) (hs : 100 < s.size) (hm : s.size ≤ 9223372036854775807) (w : World) (hG : Glob w) :
    Calls Tryd.prog 10 #[.string s, .int .u16 a] w fun e w' => e = .returned (.bool true) ∧ Below w.heap.size w w' := by
  have HG := Lib.hid hG
  clear hG
  go_enter Tryd.func10, Tryd.ntmps10
  go_wp2_with fail
  refine (works_calls _ HG.out).mono ?_
  clear HG
  rintro e w' ⟨rfl, hb⟩
  go_wp2_with fail
  go_ret
  exact ⟨rfl, hb⟩

/-- A cell of a row that was laid, after whatever left it. -/
theorem keep1 {W0 wr : World} {b n : Nat} {i : Nat} {v : Value} (h : Cell W0 ⟨b, i, none⟩ v) (hb : Below n W0 wr) (hn : b < n) : wr.cell? ⟨b, i, none⟩ = some v := (h.below hb hn).1

def v1 (m : Int) (s : Nat) : List Int := [-1 - m, s + 1 + m, 9223372036854775807, -9223372036854775808]
def v2 (m : Int) (n : Nat) : List Int := [-m, n + 1 + m, 9223372036854775807, -9223372036854775808]

def v3 (m : Int) : List Int := [-m, 1, 1, -m, 0, 0]

set_option maxRecDepth 100000 in
set_option maxHeartbeats 2000000 in
theorem walk (s : ByteArray) (m : Int) (hs : s.size ≤ 100) (hm0 : 0 ≤ m) (hm1 : m ≤ 65535) (n : Nat) (hn : n ≤ 101)
    (hO : ∀ k : Nat, k < 4 → ∀ W, Calls Tryd.prog 12 #[.string s, .int .i64 ((v1 m s.size).getD k 0)] W fun e w' => e = .returned (.tuple #[.agg #[.int .i64 0, .int .i64 0], .int .i64 3]) ∧ Below W.heap.size W w')
    (hN : ∀ W, Calls Tryd.prog 18 #[.string s] W fun e w' => e = .returned (.int .i64 n) ∧ Below W.heap.size W w')
    (hL : ∀ k : Nat, k < 4 → ∀ W, Calls Tryd.prog 16 #[.string s, .int .i64 ((v2 m n).getD k 0)] W fun e w' => e = .returned (.tuple #[.string ⟨#[]⟩, .int .i64 3]) ∧ Below W.heap.size W w')
    (hF : ∀ k : Nat, k < 4 → ∀ W, Calls Tryd.prog 14 #[.string s, .agg #[.int .i64 ((v2 m n).getD k 0), .int .i64 1]] W fun e w' => e = .returned (.tuple #[.int .i64 0, .int .i64 3]) ∧ Below W.heap.size W w')
    (hT : ∀ k : Nat, k < 3 → ∀ W, Glob W → Calls Tryd.prog 20 #[.agg #[.int .i64 ((v3 m).getD (k * 2) 0), .int .i64 ((v3 m).getD (k * 2 + 1) 0)]] W fun e w' => e = .returned (.tuple #[.string ⟨#[]⟩, .int .i64 2]) ∧ Below W.heap.size W w')
    (w : World) (hG : Glob w) :
    Calls Tryd.prog 10 #[.string s, .int .u16 m] w fun e w' => e = .returned (.bool true) ∧ Below w.heap.size w w' := by
  have HG := Lib.hid hG
  have HO := Lib.hid hO
  have HN := Lib.hid hN
  have HL := Lib.hid hL
  have HF := Lib.hid hF
  have HT := Lib.hid hT
  clear hG hO hN hL hF hT
  go_enter Tryd.func10, Tryd.ntmps10
  go_wp2_with fail
  have hc0 : ∀ k : Nat, k < 4 → Cell (w.alloc (.cells #[.int .i64 (-1 - m), .int .i64 ((s.size : Int) + 1 + m), .int .i64 9223372036854775807, .int .i64 (-9223372036854775808)] 3)) ⟨w.heap.size, k, none⟩ (.int .i64 ((v1 m s.size).getD k 0)) := by
    intro k hk
    obtain rfl | rfl | rfl | rfl : k = 0 ∨ k = 1 ∨ k = 2 ∨ k = 3 := by omega
    all_goals exact Cell.new w _ _ _ _ rfl
  have hb0 := Lib.hid ((Below.refl _ w).alloc (Nat.le_refl _) (.cells #[.int .i64 (-1 - m), .int .i64 ((s.size : Int) + 1 + m), .int .i64 9223372036854775807, .int .i64 (-9223372036854775808)] 3))
  have hz0 := Lib.hid (show (w.alloc (.cells #[.int .i64 (-1 - m), .int .i64 ((s.size : Int) + 1 + m), .int .i64 9223372036854775807, .int .i64 (-9223372036854775808)] 3)).heap.size = w.heap.size + 1 by simp)
  have HC := Lib.hid hc0
  clear hc0
  generalize w.alloc (.cells #[.int .i64 (-1 - m), .int .i64 ((s.size : Int) + 1 + m), .int .i64 9223372036854775807, .int .i64 (-9223372036854775808)] 3) = w0 at *
  go_loopw [35] (fun i wr => ∃ k : Nat, k ≤ 4 ∧ i = .int .i64 k ∧ Below (w.heap.size + 1) w0 wr) (fun i _ => 4 - (intOf i).toNat)
  case atStart => exact ⟨0, by omega, rfl, Below.refl _ _⟩
  case round =>
    obtain ⟨k, hk, rfl, hbr⟩ := hrel
    by_cases hlt : k < 4
    · have c0 := keep1 (HC.out k hlt) hbr (by omega)
      have hO := fun W => HO.out k hlt W
      have HBR := Lib.hid hbr
      have hw := hbr.size
      have hz := hz0.out
      rw [hz] at hw
      clear hbr hz
      generalize (v1 m s.size).getD k 0 = a at *
      have HO' := Lib.hid hO
      clear hO
      go_wp2_with fail
      refine (HO'.out _).mono ?_
      clear HO'
      rintro e w2 ⟨rfl, hb⟩
      have B2 := Lib.hid (HBR.out.trans (hb.mono (by omega)))
      have hw2 := hb.size
      clear hb HBR
      have B3 := Lib.hid (B2.out.alloc (by omega) (.cells #[.int .i64 0, .int .i64 0] 24))
      clear B2
      go_wp2_with fail
      exact ⟨⟨k + 1, by omega, by go_num, B3.out⟩, by simp [intOf]; omega⟩
    · obtain rfl : k = 4 := by omega
      have B0 := Lib.hid (hb0.out.trans (hbr.mono (by omega)))
      clear hbr hb0 HC hz0 HO
      go_wp2_with fail
      refine (HN.out _).mono ?_
      clear HN
      rintro e w1 ⟨rfl, hb⟩
      have B1 := Lib.hid (after B0.out hb)
      clear hb B0
      go_wp2_with fail
      have hc0 : ∀ k : Nat, k < 4 → Cell (w1.alloc (.cells #[.int .i64 (-m), .int .i64 ((n : Int) + 1 + m), .int .i64 9223372036854775807, .int .i64 (-9223372036854775808)] 3)) ⟨w1.heap.size, k, none⟩ (.int .i64 ((v2 m n).getD k 0)) := by
        intro k hk
        obtain rfl | rfl | rfl | rfl : k = 0 ∨ k = 1 ∨ k = 2 ∨ k = 3 := by omega
        all_goals exact Cell.new w1 _ _ _ _ rfl
      have hb0 := Lib.hid (B1.out.alloc B1.out.size (.cells #[.int .i64 (-m), .int .i64 ((n : Int) + 1 + m), .int .i64 9223372036854775807, .int .i64 (-9223372036854775808)] 3))
      have hz0 := Lib.hid (show (w1.alloc (.cells #[.int .i64 (-m), .int .i64 ((n : Int) + 1 + m), .int .i64 9223372036854775807, .int .i64 (-9223372036854775808)] 3)).heap.size = w1.heap.size + 1 by simp)
      have HC := Lib.hid hc0
      clear hc0 B1
      generalize w1.alloc (.cells #[.int .i64 (-m), .int .i64 ((n : Int) + 1 + m), .int .i64 9223372036854775807, .int .i64 (-9223372036854775808)] 3) = w1a at *
      go_loopw [62] (fun i wr => ∃ k : Nat, k ≤ 4 ∧ i = .int .i64 k ∧ Below (w1.heap.size + 1) w1a wr) (fun i _ => 4 - (intOf i).toNat)
      case atStart => exact ⟨0, by omega, rfl, Below.refl _ _⟩
      case round =>
        obtain ⟨k, hk, rfl, hbr⟩ := hrel
        by_cases hlt : k < 4
        · have c0 := keep1 (HC.out k hlt) hbr (by omega)
          have HL' := Lib.hid (fun W => HL.out k hlt W)
          have HF' := Lib.hid (fun W => HF.out k hlt W)
          have HBR := Lib.hid hbr
          have hw := hbr.size
          have hz := hz0.out
          rw [hz] at hw
          clear hbr hz
          generalize (v2 m n).getD k 0 = a at *
          go_wp2_with fail
          refine (HL'.out _).mono ?_
          clear HL'
          rintro e w2 ⟨rfl, hb⟩
          have B2 := Lib.hid (HBR.out.trans (hb.mono (by omega)))
          have hw2 := hb.size
          clear hb HBR
          go_wp2_with fail
          refine (HF'.out _).mono ?_
          clear HF'
          rintro e w3 ⟨rfl, hb⟩
          have B3 := Lib.hid (B2.out.trans (hb.mono (by omega)))
          clear hb B2
          go_wp2_with fail
          exact ⟨⟨k + 1, by omega, by go_num, B3.out⟩, by simp [intOf]; omega⟩
        · obtain rfl : k = 4 := by omega
          have B0 := Lib.hid (after hb0.out (hbr.mono (by have := hz0.out; omega)))
          clear hbr hb0 HC hz0 HL HF
          go_wp2_with fail
          have hc0 : ∀ k : Nat, k < 3 → Cell (wr.alloc (.cells #[.int .i64 (-m), .int .i64 1, .int .i64 1, .int .i64 (-m), .int .i64 0, .int .i64 0] 24)) ⟨wr.heap.size, k * 2, none⟩ (.int .i64 ((v3 m).getD (k * 2) 0)) ∧ Cell (wr.alloc (.cells #[.int .i64 (-m), .int .i64 1, .int .i64 1, .int .i64 (-m), .int .i64 0, .int .i64 0] 24)) ⟨wr.heap.size, k * 2 + 1, none⟩ (.int .i64 ((v3 m).getD (k * 2 + 1) 0)) := by
            intro k hk
            obtain rfl | rfl | rfl : k = 0 ∨ k = 1 ∨ k = 2 := by omega
            all_goals exact ⟨Cell.new wr _ _ _ _ rfl, Cell.new wr _ _ _ _ rfl⟩
          have hb0 := Lib.hid (B0.out.alloc B0.out.size (.cells #[.int .i64 (-m), .int .i64 1, .int .i64 1, .int .i64 (-m), .int .i64 0, .int .i64 0] 24))
          have hz0 := Lib.hid (show (wr.alloc (.cells #[.int .i64 (-m), .int .i64 1, .int .i64 1, .int .i64 (-m), .int .i64 0, .int .i64 0] 24)).heap.size = wr.heap.size + 1 by simp)
          have HC := Lib.hid hc0
          clear hc0 B0
          generalize wr.alloc (.cells #[.int .i64 (-m), .int .i64 1, .int .i64 1, .int .i64 (-m), .int .i64 0, .int .i64 0] 24) = w2a at *
          generalize hwr : wr.heap.size = nb at *
          clear hwr
          go_loopw [103] (fun i wx => ∃ k : Nat, k ≤ 3 ∧ i = .int .i64 k ∧ Below (nb + 1) w2a wx) (fun i _ => 3 - (intOf i).toNat)
          case atStart => exact ⟨0, by omega, rfl, Below.refl _ _⟩
          case round =>
            obtain ⟨k, hk, rfl, hbr⟩ := hrel
            by_cases hlt : k < 3
            · have c0 := keep1 (HC.out k hlt).1 hbr (by omega)
              have c1 := keep1 (HC.out k hlt).2 hbr (by omega)
              have HT' := Lib.hid (fun W => HT.out k hlt W)
              have HBR := Lib.hid hbr
              have HB0 := Lib.hid (after hb0.out (hbr.mono (by have := hz0.out; omega)))
              have hw := hbr.size
              have hz := hz0.out
              rw [hz] at hw
              clear hbr hz
              generalize (v3 m).getD (k * 2) 0 = a at *
              generalize (v3 m).getD (k * 2 + 1) 0 = b at *
              have HBA := Lib.hid (HBR.out.alloc (by have := hz0.out; have := HBR.out.size; omega) (.cells #[.int .i64 a, .int .i64 b] 24))
              have HBB := Lib.hid (HB0.out.alloc HB0.out.size (.cells #[.int .i64 a, .int .i64 b] 24))
              go_wp2_with fail
              refine (HT'.out _ (HG.out.below HBB.out)).mono ?_
              clear HT'
              rintro e w4 ⟨rfl, hb⟩
              have B4 := Lib.hid (HBA.out.trans (hb.mono (by simp; omega)))
              clear hb HBA HBB HB0 HBR
              go_wp2_with fail
              refine ⟨?_, ?_⟩
              · (repeat apply Exists.intro)
                exact ⟨⟨k + 1, by omega, by go_num, B4.out⟩, rfl⟩
              · simp [intOf]; omega
            · obtain rfl : k = 3 := by omega
              have B5 := Lib.hid (after hb0.out (hbr.mono (by have := hz0.out; omega)))
              clear hbr hb0 HC hz0 HT
              go_wp2_with fail
              refine (works_calls _ (HG.out.below B5.out)).mono ?_
              clear HG
              rintro e w6 ⟨rfl, hb⟩
              have B6 := Lib.hid (after B5.out hb)
              clear hb B5
              go_wp2_with fail
              go_ret
              exact ⟨rfl, B6.out⟩
end Go.Proofs.YthjpcfohpbbacaaDoor.refuses
