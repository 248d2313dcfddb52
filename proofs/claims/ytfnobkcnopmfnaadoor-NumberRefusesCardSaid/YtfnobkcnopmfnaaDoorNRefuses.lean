/-
  NumberRefuses: the law's walk.
-/
import Derived.Test.YtfnobkcnopmfnaaDoorNRefMath
namespace Go.Proofs.YtfnobkcnopmfnaaDoor.refuses
open Go Go.RowKit Go.Shelf Go.Sort Go.Proofs.YtfnobkcnopmfnaaDoor Go.Proofs.YtfnobkcnopmfnaaDoor.texts

set_option maxRecDepth 100000 in
set_option maxHeartbeats 4000000 in
theorem long (far a b : Int) (f : ByteArray) (hs : 100 < f.size) (hm : f.size ≤ 9223372036854775807) (w : World) (hG : Glob w) :
    Calls Tryd.prog 10 #[.int .u16 far, .int .i64 a, .int .i64 b, .string f] w fun e w' => e = .returned (.bool true) ∧ Below w.heap.size w w' := by
  have HG := Lib.hid hG
  have e1 : (100 : Int) < f.size := by omega
  clear hG
  go_enter Tryd.func10, Tryd.ntmps10
  go_wp2_with fail
  refine (works_calls _ HG.out).mono ?_
  rintro e w2 ⟨rfl, hb⟩
  have B2 := Lib.hid hb
  clear hb
  go_wp2_with fail
  go_ret
  exact ⟨rfl, B2.out⟩

def badvs (S : Bytes) : List ByteArray := [⟨#[]⟩, ⟨#[45]⟩, ⟨#[43]⟩ ++ B S, ⟨#[48]⟩ ++ B S, ⟨#[32]⟩ ++ B S, B S ++ ⟨#[32]⟩, B S ++ ⟨#[46]⟩, ⟨#[45, 45]⟩ ++ B S, B S ++ ⟨#[45]⟩, B S ++ ⟨#[101, 49]⟩, ⟨#[45, 48]⟩, B S ++ ⟨#[0]⟩]
def badls (S : Bytes) : List ByteArray := [⟨#[44]⟩, B S ++ ⟨#[44]⟩, ⟨#[44]⟩ ++ B S, B S ++ ⟨#[44, 44]⟩ ++ B S, B S ++ ⟨#[44, 32]⟩ ++ B S, B S ++ ⟨#[59]⟩ ++ B S]
theorem bl (a : ByteArray) (s : Bytes) : (a ++ B s).data.toList = a.data.toList ++ s := by rw [ByteArray.data_append]; simp
theorem br (a : ByteArray) (s : Bytes) : (B s ++ a).data.toList = s ++ a.data.toList := by rw [ByteArray.data_append]; simp
theorem badvs_is (S : Bytes) (k : Nat) (hk : k < 12) : ((badvs S).getD k ⟨#[]⟩).data.toList = (bads S).getD k [] := by
  obtain rfl | rfl | rfl | rfl | rfl | rfl | rfl | rfl | rfl | rfl | rfl | rfl : k = 0 ∨ k = 1 ∨ k = 2 ∨ k = 3 ∨ k = 4 ∨ k = 5 ∨ k = 6 ∨ k = 7 ∨ k = 8 ∨ k = 9 ∨ k = 10 ∨ k = 11 := by omega
  · rfl
  · rfl
  · exact bl _ _
  · exact bl _ _
  · exact bl _ _
  · exact br _ _
  · exact br _ _
  · exact bl _ _
  · exact br _ _
  · exact br _ _
  · rfl
  · exact br _ _
theorem badls_is (S : Bytes) (k : Nat) (hk : k < 6) : ((badls S).getD k ⟨#[]⟩).data.toList = (badl S).getD k [] := by
  obtain rfl | rfl | rfl | rfl | rfl | rfl : k = 0 ∨ k = 1 ∨ k = 2 ∨ k = 3 ∨ k = 4 ∨ k = 5 := by omega
  · rfl
  · exact br _ _
  · exact bl _ _
  · show (B S ++ ⟨#[44, 44]⟩ ++ B S).data.toList = S ++ [44, 44] ++ S
    rw [bl, br]
  · show (B S ++ ⟨#[44, 32]⟩ ++ B S).data.toList = S ++ [44, 32] ++ S
    rw [bl, br]
  · show (B S ++ ⟨#[59]⟩ ++ B S).data.toList = S ++ [59] ++ S
    rw [bl, br]
theorem badl_len (S : Bytes) (hS : S.length ≤ 20) (k : Nat) (hk : k < 6) : ((badl S).getD k []).length ≤ 100 := by
  obtain rfl | rfl | rfl | rfl | rfl | rfl : k = 0 ∨ k = 1 ∨ k = 2 ∨ k = 3 ∨ k = 4 ∨ k = 5 := by omega
  all_goals (simp [badl]; try omega)
theorem parse_bad (a : Int) (k : Nat) (hk : k < 12) (W : World) (hG : Glob W) :
    Calls Tryd.prog 12 #[.string ((badvs (Lib.itoa a)).getD k ⟨#[]⟩)] W fun e w' => e = .returned (.tuple #[.int .i64 0, .int .i64 7]) ∧ Below W.heap.size W w' := by
  have := parse_calls ((badvs (Lib.itoa a)).getD k ⟨#[]⟩) W hG
  rw [badvs_is _ k hk, bads_no a k hk] at this
  exact this
theorem list_bad (a : Int) (ha : okI a) (k : Nat) (hk : k < 6) (W : World) (hG : Glob W) :
    Calls Tryd.prog 14 #[.string ((badls (Lib.itoa a)).getD k ⟨#[]⟩)] W fun e w' => ∃ s c, e = .returned (.tuple #[.slice s 0 c, .int .i64 7]) ∧ Below W.heap.size W w' := by
  have hl := badl_len (Lib.itoa a) (itoa_len a ha) k hk
  have := list_calls ((badls (Lib.itoa a)).getD k ⟨#[]⟩) (by rw [Lib.size_eq, badls_is _ k hk]; omega) W hG
  unfold ListIs at this
  rw [badls_is _ k hk, badl_no a k hk] at this
  refine this.mono ?_
  rintro e w' ⟨v, h1, h2, h3⟩
  obtain ⟨s, c, rfl⟩ := h2.nil
  exact ⟨s, c, h1, h3⟩

theorem strs_at (l : List ByteArray) (k : Nat) (hk : k < l.length) : ((l.map Value.string).toArray)[k]? = some (.string (l.getD k ⟨#[]⟩)) := by
  simp [List.getD, hk]
/-- What the law's calls give. -/
structure Res (far a b : Int) (S : Bytes) (f : ByteArray) : Prop where
  d0 : ∀ W, Calls Tryd.prog 19 #[.int .i64 (-far), .int .i64 a, .int .i64 b] W fun e w' => e = .returned (.tuple #[.int .i64 0, .int .i64 0, .int .i64 2]) ∧ W = w'
  d1 : ∀ W, Calls Tryd.prog 19 #[.int .i64 (6 + far), .int .i64 a, .int .i64 b] W fun e w' => e = .returned (.tuple #[.int .i64 0, .int .i64 0, .int .i64 2]) ∧ W = w'
  c0 : ∀ W, Calls Tryd.prog 21 #[.int .i64 (5 - far), .int .i64 a, .int .i64 b] W fun e w' => e = .returned (.tuple #[.bool false, .int .i64 2]) ∧ Below W.heap.size W w'
  c1 : ∀ W, Calls Tryd.prog 21 #[.int .i64 (12 + far), .int .i64 a, .int .i64 b] W fun e w' => e = .returned (.tuple #[.bool false, .int .i64 2]) ∧ Below W.heap.size W w'
  t : ∀ W, Glob W → Calls Tryd.prog 16 #[.int .i64 a] W fun e w' => e = .returned (.string (B S)) ∧ Below W.heap.size W w'
  p : ∀ k, k < 12 → ∀ W, Glob W → Calls Tryd.prog 12 #[.string ((badvs S).getD k ⟨#[]⟩)] W fun e w' => e = .returned (.tuple #[.int .i64 0, .int .i64 7]) ∧ Below W.heap.size W w'
  l : ∀ k, k < 6 → ∀ W, Glob W → Calls Tryd.prog 14 #[.string ((badls S).getD k ⟨#[]⟩)] W fun e w' => ∃ s c, e = .returned (.tuple #[.slice s 0 c, .int .i64 7]) ∧ Below W.heap.size W w'
  len : S.length ≤ 20
  q : ∀ c, f.data.toList.getLast? = some c → ¬ isDig c → c ≠ 45 → ∀ W, Glob W → Calls Tryd.prog 12 #[.string (f ++ B S)] W fun e w' => e = .returned (.tuple #[.int .i64 0, .int .i64 7]) ∧ Below W.heap.size W w'
theorem res (far a b : Int) (hf0 : 0 ≤ far) (ha : okI a) (f : ByteArray) : Res far a b (Lib.itoa a) f := by
  have hd : ∀ op, (op < 1 ∨ 5 < op) → doN op a b = none := fun op h => by unfold doN; rw [if_neg (by omega), if_neg (by omega), if_neg (by omega), if_neg (by omega), if_neg (by omega)]
  refine ⟨fun W => ?_, fun W => ?_, fun W => ?_, fun W => ?_, text_calls a ha, parse_bad a, list_bad a ha, itoa_len a ha, fun c h h1 h2 W hG => ?_⟩
  · have := do_calls (-far) a b W; rw [hd _ (by omega)] at this; exact this
  · have := do_calls (6 + far) a b W; rw [hd _ (by omega)] at this; exact this
  · have := compare_calls (5 - far) a b W; rw [cmpN_none (by omega)] at this; exact this
  · have := compare_calls (12 + far) a b W; rw [cmpN_none (by omega)] at this; exact this
  · have := parse_calls (f ++ B (Lib.itoa a)) W hG
    rw [bl, no_bad (c := c) (List.mem_append_left _ (List.mem_of_getLast? h)) h1 h2] at this
    exact this

theorem last_is (f : ByteArray) (h : 0 < f.size) : f.data.toList.getLast? = some f[f.size - 1] := by
  rw [List.getLast?_eq_getElem?, ← Lib.size_eq]
  have : f[f.size - 1] = f.data.toList[f.size - 1]'(by rw [← Lib.size_eq]; omega) := rfl
  rw [this]
  exact List.getElem?_eq_getElem _

set_option maxRecDepth 100000 in
set_option maxHeartbeats 8000000 in
theorem short (far a b : Int) (hf0 : 0 ≤ far) (hf1 : far ≤ 65535) (S : Bytes) (f : ByteArray) (hs : f.size ≤ 100) (hR : Res far a b S f) (w : World) (hG : Glob w) :
    Calls Tryd.prog 10 #[.int .u16 far, .int .i64 a, .int .i64 b, .string f] w fun e w' => e = .returned (.bool true) ∧ Below w.heap.size w w' := by
  have HG := Lib.hid hG
  have HR := Lib.hid hR
  have e1 : ¬ (100 : Int) < f.size := by omega
  clear hG hR
  go_enter Tryd.func10, Tryd.ntmps10
  go_wp2_with fail
  have t0 := (Cell.new w #[.int .i64 (-far), .int .i64 (6 + far)] 3 0 _ rfl).1
  have t1 := (Cell.new w #[.int .i64 (-far), .int .i64 (6 + far)] 3 1 _ rfl).1
  have hb := (Below.refl w.heap.size w).alloc (Nat.le_refl _) (.cells #[.int .i64 (-far), .int .i64 (6 + far)] 3)
  generalize w.alloc (.cells #[.int .i64 (-far), .int .i64 (6 + far)] 3) = w1 at *
  have B1 := Lib.hid hb
  clear hb
  go_loop [42] (fun i => ∃ k : Nat, k ≤ 2 ∧ i = .int .i64 k) (fun i => 2 - (intOf i).toNat)
  case atStart => exact ⟨0, by omega, rfl⟩
  case round =>
    obtain ⟨k, hk, rfl⟩ := hrel
    obtain rfl | rfl | rfl : k = 0 ∨ k = 1 ∨ k = 2 := by omega
    · clear t1 hk
      go_wp2_with fail
      refine (HR.out.d0 _).mono ?_
      rintro e w' ⟨rfl, rfl⟩
      go_wp2_with fail
      go_round
      case rel => exact ⟨1, by omega, by go_num⟩
      case measure => simp [intOf]
    · clear t0 hk
      go_wp2_with fail
      refine (HR.out.d1 _).mono ?_
      rintro e w' ⟨rfl, rfl⟩
      go_wp2_with fail
      go_round
      case rel => exact ⟨2, by omega, by go_num⟩
      case measure => simp [intOf]
    · clear t0 t1 hk
      go_wp2_with fail
      have q0 := (Cell.new w1 #[.int .i64 (5 - far), .int .i64 (12 + far)] 3 0 _ rfl).1
      have q1 := (Cell.new w1 #[.int .i64 (5 - far), .int .i64 (12 + far)] 3 1 _ rfl).1
      have hb := B1.out.alloc B1.out.size (.cells #[.int .i64 (5 - far), .int .i64 (12 + far)] 3)
      have hz : w1.heap.size < (w1.alloc (.cells #[.int .i64 (5 - far), .int .i64 (12 + far)] 3)).heap.size := by simp
      generalize w1.alloc (.cells #[.int .i64 (5 - far), .int .i64 (12 + far)] 3) = w2 at *
      generalize w1.heap.size = n1 at *
      have B2 := Lib.hid hb
      have Q0 := Lib.hid q0
      have Q1 := Lib.hid q1
      have Z := Lib.hid hz
      clear hb q0 q1 hz B1
      go_loopw [71] (fun i wr => ∃ k : Nat, k ≤ 2 ∧ i = .int .i64 k ∧ Hid (Below w2.heap.size w2 wr)) (fun i _ => 2 - (intOf i).toNat)
      case atStart => exact ⟨0, by omega, rfl, Below.refl _ _⟩
      case round =>
        obtain ⟨k, hk, rfl, hB⟩ := hrel
        obtain rfl | rfl | rfl : k = 0 ∨ k = 1 ∨ k = 2 := by omega
        · have q := (hB.out.cell (p := ⟨n1, 0, none⟩) Z.out).trans Q0.out
          clear hk
          go_wp2_with fail
          refine (HR.out.c0 _).mono ?_
          rintro e w3 ⟨rfl, hb⟩
          have B3 := Lib.hid (after hB.out hb)
          clear hb hB q
          go_wp2_with fail
          go_roundw
          case rel => exact ⟨1, by omega, by go_num, B3⟩
          case measure => simp [intOf]
        · have q := (hB.out.cell (p := ⟨n1, 1, none⟩) Z.out).trans Q1.out
          clear hk
          go_wp2_with fail
          refine (HR.out.c1 _).mono ?_
          rintro e w3 ⟨rfl, hb⟩
          have B3 := Lib.hid (after hB.out hb)
          clear hb hB q
          go_wp2_with fail
          go_roundw
          case rel => exact ⟨2, by omega, by go_num, B3⟩
          case measure => simp [intOf]
        · have B3 := Lib.hid (B2.out.trans (hB.out.mono B2.out.size))
          clear hk hB B2 Q0 Q1 Z
          go_wp2_with fail
          refine (HR.out.t _ (HG.out.below B3.out)).mono ?_
          rintro e w3 ⟨rfl, hb⟩
          have B4 := Lib.hid (after B3.out hb)
          have hS := HR.out.len
          clear hb B3
          go_wp2_with fail
          have hc := fun (k : Nat) (hk : k < 12) => (Cell.new w3 ((badvs S).map Value.string).toArray 9 k _ (strs_at (badvs S) k hk)).1
          have hb := B4.out.alloc B4.out.size (.cells ((badvs S).map Value.string).toArray 9)
          have hz : w3.heap.size < (w3.alloc (.cells ((badvs S).map Value.string).toArray 9)).heap.size := by simp
          generalize hw4 : w3.alloc (.cells #[.string ⟨#[]⟩, .string ⟨#[45]⟩, .string (⟨#[43]⟩ ++ B S), .string (⟨#[48]⟩ ++ B S), .string (⟨#[32]⟩ ++ B S), .string (B S ++ ⟨#[32]⟩), .string (B S ++ ⟨#[46]⟩), .string (⟨#[45, 45]⟩ ++ B S), .string (B S ++ ⟨#[45]⟩), .string (B S ++ ⟨#[101, 49]⟩), .string ⟨#[45, 48]⟩, .string (B S ++ ⟨#[0]⟩)] 9) = w4
          rw [show w3.alloc (.cells ((badvs S).map Value.string).toArray 9) = w4 from hw4] at hb hz
          have hc : ∀ k, k < 12 → w4.cell? ⟨w3.heap.size, k, none⟩ = some (.string ((badvs S).getD k ⟨#[]⟩)) := fun k hk => by rw [← hw4]; exact hc k hk
          clear hw4
          generalize w3.heap.size = n3 at *
          have B5 := Lib.hid hb
          have C5 := Lib.hid hc
          have Z5 := Lib.hid hz
          clear hb hc hz B4
          go_loopw [110] (fun i wr => ∃ k : Nat, k ≤ 12 ∧ i = .int .i64 k ∧ Hid (Below w4.heap.size w4 wr)) (fun i _ => 12 - (intOf i).toNat)
          case atStart => exact ⟨0, by omega, rfl, Below.refl _ _⟩
          case round =>
            obtain ⟨k, hk, rfl, hB⟩ := hrel
            by_cases hlt : k < 12
            · have q := (hB.out.cell (p := ⟨n3, k, none⟩) Z5.out).trans (C5.out k hlt)
              have P := Lib.hid (HR.out.p k hlt)
              have B6 := Lib.hid (B5.out.trans (hB.out.mono B5.out.size))
              clear C5 B5 Z5
              generalize (badvs S).getD k ⟨#[]⟩ = x at *
              go_wp2_with fail
              refine (P.out _ (HG.out.below B6.out)).mono ?_
              rintro e w5 ⟨rfl, hb⟩
              have B7 := Lib.hid (after hB.out hb)
              clear hb hB q P
              go_wp2_with fail
              go_roundw
              case rel => exact ⟨k + 1, by omega, by go_num, B7⟩
              case measure => simp [intOf] <;> omega
            · obtain rfl : k = 12 := by omega
              have B6 := Lib.hid (B5.out.trans (hB.out.mono B5.out.size))
              clear hk hB B5 C5 Z5
              rw [show ((12 : Nat) : Int) = 12 from rfl]
              go_wp2_with fail
              have hc := fun (k : Nat) (hk : k < 6) => (Cell.new wr ((badls S).map Value.string).toArray 9 k _ (strs_at (badls S) k hk)).1
              have hb := B6.out.alloc B6.out.size (.cells ((badls S).map Value.string).toArray 9)
              have hz : wr.heap.size < (wr.alloc (.cells ((badls S).map Value.string).toArray 9)).heap.size := by simp
              generalize hw5 : wr.alloc (.cells #[.string ⟨#[44]⟩, .string (B S ++ ⟨#[44]⟩), .string (⟨#[44]⟩ ++ B S), .string (B S ++ ⟨#[44, 44]⟩ ++ B S), .string (B S ++ ⟨#[44, 32]⟩ ++ B S), .string (B S ++ ⟨#[59]⟩ ++ B S)] 9) = w5
              rw [show wr.alloc (.cells ((badls S).map Value.string).toArray 9) = w5 from hw5] at hb hz
              have hc : ∀ k, k < 6 → w5.cell? ⟨wr.heap.size, k, none⟩ = some (.string ((badls S).getD k ⟨#[]⟩)) := fun k hk => by rw [← hw5]; exact hc k hk
              clear hw5
              generalize wr.heap.size = n5 at *
              have B7 := Lib.hid hb
              have C7 := Lib.hid hc
              have Z7 := Lib.hid hz
              clear hb hc hz B6
              go_loopw [144] (fun i wr => ∃ k : Nat, k ≤ 6 ∧ i = .int .i64 k ∧ Hid (Below w5.heap.size w5 wr)) (fun i _ => 6 - (intOf i).toNat)
              case atStart => exact ⟨0, by omega, rfl, Below.refl _ _⟩
              case round =>
                obtain ⟨k, hk, rfl, hB⟩ := hrel
                by_cases hlt : k < 6
                · have q := (hB.out.cell (p := ⟨n5, k, none⟩) Z7.out).trans (C7.out k hlt)
                  have P := Lib.hid (HR.out.l k hlt)
                  have B8 := Lib.hid (B7.out.trans (hB.out.mono B7.out.size))
                  clear C7 B7 Z7
                  generalize (badls S).getD k ⟨#[]⟩ = x at *
                  go_wp2_with fail
                  refine (P.out _ (HG.out.below B8.out)).mono ?_
                  rintro e w6 ⟨sa, sc, rfl, hb⟩
                  have B9 := Lib.hid (after hB.out hb)
                  clear hb hB q P
                  go_wp2_with fail
                  go_roundw
                  case rel => exact ⟨k + 1, by omega, by go_num, B9⟩
                  case measure => simp [intOf] <;> omega
                · obtain rfl : k = 6 := by omega
                  have B8 := Lib.hid (B7.out.trans (hB.out.mono B7.out.size))
                  clear hk hB B7 C7 Z7
                  rw [show ((6 : Nat) : Int) = 6 from rfl]
                  have hS := HR.out.len
                  by_cases hf : f.size = 0
                  · have e2 : f.toList = [] := by rw [Lib.toList_data]; exact List.length_eq_zero_iff.1 (by rw [← Lib.size_eq]; exact hf)
                    have e3 : f.toList.isEmpty = true := by rw [e2]; rfl
                    clear HR hf hS
                    go_wp2_with fail
                    refine (works_calls _ (HG.out.below B8.out)).mono ?_
                    rintro e w9 ⟨rfl, hb⟩
                    have B9 := Lib.hid (after B8.out hb)
                    clear hb B8
                    go_wp2_with fail
                    go_ret
                    exact ⟨rfl, B9.out⟩
                  · have hpos : 0 < f.size := by omega
                    have hp1 : (1 : Int) ≤ f.size := by omega
                    have e3 : f.toList.isEmpty = false := by
                      rw [Lib.toList_data]
                      cases h : f.data.toList with
                      | nil => rw [Lib.size_eq, h] at hpos; simp at hpos
                      | cons c r => rfl
                    have hq := HR.out.q _ (last_is f hpos)
                    have m1 : ¬ 9223372036854775807 < f.size + S.length := by omega
                    clear HR
                    by_cases h45 : f[f.size - 1] = 45
                    · have e4 : ((f[f.size - 1].toNat : Int) == 45) = true := by rw [h45]; rfl
                      have e5 : ((f[f.size - 1].toNat : Int) != 45) = false := by simp [bne, e4]
                      clear hq h45 hf
                      go_wp2_with fail
                      refine (works_calls _ (HG.out.below B8.out)).mono ?_
                      rintro e w9 ⟨rfl, hb⟩
                      have B9 := Lib.hid (after B8.out hb)
                      clear hb B8
                      go_wp2_with fail
                      go_ret
                      exact ⟨rfl, B9.out⟩
                    · have e4 : ((f[f.size - 1].toNat : Int) == 45) = false := by
                        rw [beq_eq_false_iff_ne]
                        intro h
                        exact h45 (by rw [← UInt8.toNat_inj]; show _ = 45; omega)
                      have e5 : ((f[f.size - 1].toNat : Int) != 45) = true := by simp [bne, e4]
                      by_cases h48 : (f[f.size - 1].toNat : Int) < 48
                      · have Q := Lib.hid (hq (by unfold isDig; omega) h45)
                        clear hq h45 hf
                        go_wp2_with fail
                        refine (Q.out _ (HG.out.below B8.out)).mono ?_
                        rintro e w9 ⟨rfl, hb⟩
                        have B9 := Lib.hid (after B8.out hb)
                        clear hb B8 Q
                        go_wp2_with fail
                        refine (works_calls _ (HG.out.below B9.out)).mono ?_
                        rintro e w9 ⟨rfl, hb⟩
                        have B9 := Lib.hid (after B9.out hb)
                        clear hb
                        go_wp2_with fail
                        go_ret
                        exact ⟨rfl, B9.out⟩
                      · by_cases h57 : (57 : Int) < f[f.size - 1].toNat
                        · have Q := Lib.hid (hq (by unfold isDig; omega) h45)
                          clear hq h45 hf
                          go_wp2_with fail
                          refine (Q.out _ (HG.out.below B8.out)).mono ?_
                          rintro e w9 ⟨rfl, hb⟩
                          have B9 := Lib.hid (after B8.out hb)
                          clear hb B8 Q
                          go_wp2_with fail
                          refine (works_calls _ (HG.out.below B9.out)).mono ?_
                          rintro e w9 ⟨rfl, hb⟩
                          have B9 := Lib.hid (after B9.out hb)
                          clear hb
                          go_wp2_with fail
                          go_ret
                          exact ⟨rfl, B9.out⟩
                        · clear hq h45 hf
                          go_wp2_with fail
                          refine (works_calls _ (HG.out.below B8.out)).mono ?_
                          rintro e w9 ⟨rfl, hb⟩
                          have B9 := Lib.hid (after B8.out hb)
                          clear hb B8
                          go_wp2_with fail
                          go_ret
                          exact ⟨rfl, B9.out⟩
theorem law (far a b : Int) (f : ByteArray) (f0 : 0 ≤ far) (f1 : far ≤ 65535) (h1 : -9223372036854775808 ≤ a) (h2 : a ≤ 9223372036854775807) (_h3 : -9223372036854775808 ≤ b) (_h4 : b ≤ 9223372036854775807) (hm : f.size ≤ 9223372036854775807) (w : World) (hG : Glob w) :
    Calls Tryd.prog 10 #[.int .u16 far, .int .i64 a, .int .i64 b, .string f] w fun e w' => e = .returned (.bool true) ∧ Below w.heap.size w w' := by
  by_cases hs : 100 < f.size
  · exact long far a b f hs hm w hG
  · exact short far a b f0 f1 (Lib.itoa a) f (by omega) (res far a b f0 ⟨h1, h2⟩ f) w hG
end Go.Proofs.YtfnobkcnopmfnaaDoor.refuses
