/-
  rewindlaw01.PlaceDecoded returns true for every two numbers and every byte: the law's walks (written by wip/gendecoded.py).
-/
import Derived.Test.YthjpcfohpbbacaaDoorDecMath
import Derived.Test.YthjpcfohpbbacaaDoorWorks
import Derived.Test.YthjpcfohpbbacaaDoorFrame
import Derived.Shelf.Vars
import Derived.Laws.BytesArg
namespace Go.Proofs.YthjpcfohpbbacaaDoor.decoded
open Go Go.RowKit Go.Proofs.YthjpcfohpbbacaaDoor Go.Sort

/-- The variables' facts, and that the variable that strings.Index reads holds some number. -/
structure GlobM (w : World) : Prop where
  glob : Glob w
  max : ∃ m, w.cell? ⟨0, 0, none⟩ = some (.int .i64 m)
theorem GlobM.below {w w' : World} (h : GlobM w) (hb : Below w.heap.size w w') : GlobM w' := by
  obtain ⟨h1, m, h2⟩ := h
  exact ⟨h1.below hb, m, (hb.cell (World.block_lt_of_cell? _ _ h2)).trans h2⟩

theorem keep1 {W0 wr : World} {b n : Nat} {i : Nat} {v : Value} (h : Cell W0 ⟨b, i, none⟩ v) (hb : Below n W0 wr) (hn : b < n) : wr.cell? ⟨b, i, none⟩ = some v := (h.below hb hn).1
theorem conv_one (w : World) (g : Nat) (x : UInt8) (h : w.cell? ⟨g, 0, none⟩ = some (.int .u8 x.toNat)) :
    (convert 47 9 (.slice (some ⟨g, 0, none⟩) 1 1)).run Tryd.prog w = .ok (.string ⟨#[x]⟩) w := by
  rw [run_convert_bytes_arg (w := w) (P := Tryd.prog) 47 5 Tryd.underlying47 Tryd.underlying5 g 0 1 1 [(x.toNat : Int)] rfl (fun i hi => by rw [show i = 0 by omega]; exact h) 9 Tryd.underlying9]
  simp [strOfNums]

def bads (S R0 R1 R2 : ByteArray) : List ByteArray := [⟨#[48]⟩ ++ S, ⟨#[43]⟩ ++ S, ⟨#[32]⟩ ++ S, S ++ ⟨#[58, 49]⟩, ⟨#[58]⟩ ++ S, R0, R1, R2]

set_option maxRecDepth 100000 in
set_option maxHeartbeats 4000000 in
theorem walkD (a b : Nat) (c : UInt8) (ha : a ≤ 4294967295) (hb0 : b ≤ 4294967295) (hc1 : 48 ≤ c.toNat) (hc2 : c.toNat ≤ 57) (S R0 R1 R2 : ByteArray) (hS : S.size ≤ 100)
    (hT : ∀ W, Glob W → Calls Tryd.prog 20 #[.agg #[.int .i64 (1 + (a : Int)), .int .i64 (1 + (b : Int))]] W fun e w' => e = .returned (.tuple #[.string S, .int .i64 0]) ∧ Below W.heap.size W w')
    (hP : ∀ W, Glob W → Calls Tryd.prog 22 #[.string S] W fun e w' => e = .returned (.tuple #[.agg #[.int .i64 (1 + (a : Int)), .int .i64 (1 + (b : Int))], .int .i64 0]) ∧ Below W.heap.size W w')
    (hQ : ∀ W, Glob W → Calls Tryd.prog 22 #[.string (S ++ ⟨#[c]⟩)] W fun e w' => e = .returned (.tuple #[.agg #[.int .i64 (1 + (a : Int)), .int .i64 (10 * (1 + (b : Int)) + ((c.toNat : Int) - 48))], .int .i64 0]) ∧ Below W.heap.size W w')
    (hR0 : ∀ W, GlobM W → Calls Tryd.prog 30 #[.string S, .string ⟨#[58]⟩, .string ⟨#[]⟩, .int .i64 1] W fun e w' => e = .returned (.string R0) ∧ Below W.heap.size W w')
    (hR1 : ∀ W, GlobM W → Calls Tryd.prog 30 #[.string S, .string ⟨#[58]⟩, .string ⟨#[58, 48]⟩, .int .i64 1] W fun e w' => e = .returned (.string R1) ∧ Below W.heap.size W w')
    (hR2 : ∀ W, GlobM W → Calls Tryd.prog 30 #[.string S, .string ⟨#[58]⟩, .string ⟨#[59]⟩, .int .i64 1] W fun e w' => e = .returned (.string R2) ∧ Below W.heap.size W w')
    (hX : ∀ k : Nat, k < 8 → ∀ W, Glob W → Calls Tryd.prog 22 #[.string ((bads S R0 R1 R2).getD k default)] W fun e w' => e = .returned (.tuple #[.agg #[.int .i64 0, .int .i64 0], .int .i64 7]) ∧ Below W.heap.size W w')
    (w : World) (hG : GlobM w) :
    Calls Tryd.prog 8 #[.int .u32 a, .int .u32 b, .int .u8 c.toNat] w fun e w' => e = .returned (.bool true) ∧ Below w.heap.size w w' := by
  have HG := Lib.hid hG
  have HT := Lib.hid hT
  have HP := Lib.hid hP
  have HQ := Lib.hid hQ
  have HR0 := Lib.hid hR0
  have HR1 := Lib.hid hR1
  have HR2 := Lib.hid hR2
  have HX := Lib.hid hX
  clear hG hT hP hQ hR0 hR1 hR2 hX
  go_enter Tryd.func8, Tryd.ntmps8
  have B0 := Lib.hid ((Below.refl _ w).alloc (Nat.le_refl _) (.cells #[.int .i64 (1 + (a : Int)), .int .i64 (1 + (b : Int))] 24))
  have k0 := (Cell.new w #[.int .i64 (1 + (a : Int)), .int .i64 (1 + (b : Int))] 24 0 _ rfl).1
  have k1 := (Cell.new w #[.int .i64 (1 + (a : Int)), .int .i64 (1 + (b : Int))] 24 1 _ rfl).1
  go_wp2_with fail
  generalize w.alloc (.cells #[.int .i64 (1 + (a : Int)), .int .i64 (1 + (b : Int))] 24) = w1 at *
  refine (HT.out _ (HG.out.glob.below B0.out)).mono ?_
  clear HT
  rintro e w2 ⟨rfl, hb⟩
  have B2 := Lib.hid (after B0.out hb)
  have k0 := Lib.hid ((hb.cell (World.block_lt_of_cell? _ _ k0)).trans k0)
  have k1 := Lib.hid ((hb.cell (World.block_lt_of_cell? _ _ k1)).trans k1)
  clear hb B0
  go_wp2_with fail
  refine (HP.out _ (HG.out.glob.below B2.out)).mono ?_
  clear HP
  rintro e w3 ⟨rfl, hb⟩
  have B3 := Lib.hid (after B2.out hb)
  have k0 := ((hb.cell (World.block_lt_of_cell? _ _ k0.out)).trans k0.out)
  have k1 := ((hb.cell (World.block_lt_of_cell? _ _ k1.out)).trans k1.out)
  clear hb B2
  have B4 := Lib.hid ((B3.out.alloc B3.out.size (.cells #[.int .i64 (1 + (a : Int)), .int .i64 (1 + (b : Int))] 24)).alloc (by simp; have := B3.out.size; omega) (.cells #[.int .u8 c.toNat] 5))
  have k0 := ((World.cell?_alloc_lt w3 (.cells #[.int .i64 (1 + (a : Int)), .int .i64 (1 + (b : Int))] 24) _ (World.block_lt_of_cell? _ _ k0)).trans k0)
  have k1 := ((World.cell?_alloc_lt w3 (.cells #[.int .i64 (1 + (a : Int)), .int .i64 (1 + (b : Int))] 24) _ (World.block_lt_of_cell? _ _ k1)).trans k1)
  have d0 := (Cell.new w3 #[.int .i64 (1 + (a : Int)), .int .i64 (1 + (b : Int))] 24 0 _ rfl).1
  have d1 := (Cell.new w3 #[.int .i64 (1 + (a : Int)), .int .i64 (1 + (b : Int))] 24 1 _ rfl).1
  have k2 := (Cell.new (w3.alloc (.cells #[.int .i64 (1 + (a : Int)), .int .i64 (1 + (b : Int))] 24)) #[.int .u8 c.toNat] 5 0 _ rfl).1
  rw [World.size_alloc] at k2
  have hcv := Lib.hid (conv_one _ _ c k2)
  clear B3 k2
  go_wp2_with fail
  rw [hcv.out]
  have m1 : ¬ 9223372036854775807 < S.size + 1 := by omega
  have K0 := Lib.hid ((World.cell?_alloc_lt (w3.alloc (.cells #[.int .i64 (1 + (a : Int)), .int .i64 (1 + (b : Int))] 24)) (.cells #[.int .u8 c.toNat] 5) _ (World.block_lt_of_cell? _ _ k0)).trans k0)
  have K1 := Lib.hid ((World.cell?_alloc_lt (w3.alloc (.cells #[.int .i64 (1 + (a : Int)), .int .i64 (1 + (b : Int))] 24)) (.cells #[.int .u8 c.toNat] 5) _ (World.block_lt_of_cell? _ _ k1)).trans k1)
  clear hcv k0 k1 d0 d1
  generalize (w3.alloc (.cells #[.int .i64 (1 + (a : Int)), .int .i64 (1 + (b : Int))] 24)).alloc (.cells #[.int .u8 c.toNat] 5) = w4 at *
  go_wp2_with fail
  clear m1
  refine (HQ.out _ (HG.out.glob.below B4.out)).mono ?_
  clear HQ
  rintro e w5 ⟨rfl, hb⟩
  have B5 := Lib.hid (after B4.out hb)
  have k0 := ((hb.cell (World.block_lt_of_cell? _ _ K0.out)).trans K0.out)
  have k1 := ((hb.cell (World.block_lt_of_cell? _ _ K1.out)).trans K1.out)
  clear hb B4 K0 K1
  have B6 := Lib.hid (B5.out.alloc B5.out.size (.cells #[.int .i64 (1 + (a : Int)), .int .i64 (10 * (1 + (b : Int)) + ((c.toNat : Int) - 48))] 24))
  have d0 := (Cell.new w5 #[.int .i64 (1 + (a : Int)), .int .i64 (10 * (1 + (b : Int)) + ((c.toNat : Int) - 48))] 24 0 _ rfl).1
  have d1 := (Cell.new w5 #[.int .i64 (1 + (a : Int)), .int .i64 (10 * (1 + (b : Int)) + ((c.toNat : Int) - 48))] 24 1 _ rfl).1
  have k0 := ((World.cell?_alloc_lt w5 (.cells #[.int .i64 (1 + (a : Int)), .int .i64 (10 * (1 + (b : Int)) + ((c.toNat : Int) - 48))] 24) _ (World.block_lt_of_cell? _ _ k0)).trans k0)
  have k1 := ((World.cell?_alloc_lt w5 (.cells #[.int .i64 (1 + (a : Int)), .int .i64 (10 * (1 + (b : Int)) + ((c.toNat : Int) - 48))] 24) _ (World.block_lt_of_cell? _ _ k1)).trans k1)
  clear B5
  have m0 : ¬ 9223372036854775807 < 1 + S.size := by omega
  have m2 : ¬ 9223372036854775807 < S.size + 2 := by omega
  go_wp2_with fail
  clear k0 k1 d0 d1
  generalize w5.alloc (.cells #[.int .i64 (1 + (a : Int)), .int .i64 (10 * (1 + (b : Int)) + ((c.toNat : Int) - 48))] 24) = w6 at *
  refine (HR0.out _ (HG.out.below B6.out)).mono ?_
  clear HR0
  rintro e w7 ⟨rfl, hb⟩
  have B7 := Lib.hid (after B6.out hb)
  clear hb B6
  go_wp2_with fail
  refine (HR1.out _ (HG.out.below B7.out)).mono ?_
  clear HR1
  rintro e w8 ⟨rfl, hb⟩
  have B8 := Lib.hid (after B7.out hb)
  clear hb B7
  go_wp2_with fail
  refine (HR2.out _ (HG.out.below B8.out)).mono ?_
  clear HR2
  rintro e w9 ⟨rfl, hb⟩
  have B9 := Lib.hid (after B8.out hb)
  clear hb B8
  go_wp2_with fail
  have hc0 : ∀ k : Nat, k < 8 → Cell (w9.alloc (.cells #[.string (⟨#[48]⟩ ++ S), .string (⟨#[43]⟩ ++ S), .string (⟨#[32]⟩ ++ S), .string (S ++ ⟨#[58, 49]⟩), .string (⟨#[58]⟩ ++ S), .string R0, .string R1, .string R2] 9)) ⟨w9.heap.size, k, none⟩ (.string ((bads S R0 R1 R2).getD k default)) := by
    intro k hk
    obtain rfl | rfl | rfl | rfl | rfl | rfl | rfl | rfl : k = 0 ∨ k = 1 ∨ k = 2 ∨ k = 3 ∨ k = 4 ∨ k = 5 ∨ k = 6 ∨ k = 7 := by omega
    all_goals exact Cell.new w9 _ _ _ _ rfl
  have hb0 := Lib.hid (B9.out.alloc B9.out.size (.cells #[.string (⟨#[48]⟩ ++ S), .string (⟨#[43]⟩ ++ S), .string (⟨#[32]⟩ ++ S), .string (S ++ ⟨#[58, 49]⟩), .string (⟨#[58]⟩ ++ S), .string R0, .string R1, .string R2] 9))
  have hz0 := Lib.hid (show (w9.alloc (.cells #[.string (⟨#[48]⟩ ++ S), .string (⟨#[43]⟩ ++ S), .string (⟨#[32]⟩ ++ S), .string (S ++ ⟨#[58, 49]⟩), .string (⟨#[58]⟩ ++ S), .string R0, .string R1, .string R2] 9)).heap.size = w9.heap.size + 1 by simp)
  have HC := Lib.hid hc0
  clear hc0 B9 m0 m2
  generalize w9.alloc (.cells #[.string (⟨#[48]⟩ ++ S), .string (⟨#[43]⟩ ++ S), .string (⟨#[32]⟩ ++ S), .string (S ++ ⟨#[58, 49]⟩), .string (⟨#[58]⟩ ++ S), .string R0, .string R1, .string R2] 9) = w0 at *
  go_loopw [109] (fun i wr => ∃ k : Nat, k ≤ 8 ∧ i = .int .i64 k ∧ Below (w9.heap.size + 1) w0 wr) (fun i _ => 8 - (intOf i).toNat)
  case atStart => exact ⟨0, by omega, rfl, Below.refl _ _⟩
  case round =>
    obtain ⟨k, hk, rfl, hbr⟩ := hrel
    by_cases hlt : k < 8
    · have c0 := keep1 (HC.out k hlt) hbr (by omega)
      have HX' := Lib.hid (fun W => HX.out k hlt W)
      have HBR := Lib.hid hbr
      have HB0 := Lib.hid (after hb0.out (hbr.mono (by have := hz0.out; omega)))
      have hw := hbr.size
      have hz := hz0.out
      rw [hz] at hw
      clear hbr hz
      generalize (bads S R0 R1 R2).getD k default = x at *
      go_wp2_with fail
      refine (HX'.out _ (HG.out.glob.below HB0.out)).mono ?_
      clear HX'
      rintro e w2 ⟨rfl, hb⟩
      have B2 := Lib.hid (HBR.out.trans (hb.mono (by omega)))
      have hw2 := hb.size
      clear hb HBR HB0
      have B3 := Lib.hid (B2.out.alloc (by omega) (.cells #[.int .i64 0, .int .i64 0] 24))
      have f0 := (Cell.new w2 #[.int .i64 0, .int .i64 0] 24 0 _ rfl).1
      have f1 := (Cell.new w2 #[.int .i64 0, .int .i64 0] 24 1 _ rfl).1
      clear B2
      go_wp2_with fail
      exact ⟨⟨k + 1, by omega, by go_num, B3.out⟩, by simp [intOf]; omega⟩
    · obtain rfl : k = 8 := by omega
      have B5 := Lib.hid (after hb0.out (hbr.mono (by have := hz0.out; omega)))
      clear hbr hb0 HC hz0 HX
      go_wp2_with fail
      refine (works_calls _ (HG.out.glob.below B5.out)).mono ?_
      clear HG
      rintro e w6 ⟨rfl, hb⟩
      have B6 := Lib.hid (after B5.out hb)
      clear hb B5
      go_wp2_with fail
      go_ret
      exact ⟨rfl, B6.out⟩

set_option maxRecDepth 100000 in
set_option maxHeartbeats 4000000 in
theorem walkL (a b : Nat) (c : UInt8) (ha : a ≤ 4294967295) (hb0 : b ≤ 4294967295) (hc1 : c.toNat < 48) (S R0 R1 R2 : ByteArray) (hS : S.size ≤ 100)
    (hT : ∀ W, Glob W → Calls Tryd.prog 20 #[.agg #[.int .i64 (1 + (a : Int)), .int .i64 (1 + (b : Int))]] W fun e w' => e = .returned (.tuple #[.string S, .int .i64 0]) ∧ Below W.heap.size W w')
    (hP : ∀ W, Glob W → Calls Tryd.prog 22 #[.string S] W fun e w' => e = .returned (.tuple #[.agg #[.int .i64 (1 + (a : Int)), .int .i64 (1 + (b : Int))], .int .i64 0]) ∧ Below W.heap.size W w')
    (hQ : ∀ W, Glob W → Calls Tryd.prog 22 #[.string (S ++ ⟨#[c]⟩)] W fun e w' => e = .returned (.tuple #[.agg #[.int .i64 0, .int .i64 0], .int .i64 7]) ∧ Below W.heap.size W w')
    (hR0 : ∀ W, GlobM W → Calls Tryd.prog 30 #[.string S, .string ⟨#[58]⟩, .string ⟨#[]⟩, .int .i64 1] W fun e w' => e = .returned (.string R0) ∧ Below W.heap.size W w')
    (hR1 : ∀ W, GlobM W → Calls Tryd.prog 30 #[.string S, .string ⟨#[58]⟩, .string ⟨#[58, 48]⟩, .int .i64 1] W fun e w' => e = .returned (.string R1) ∧ Below W.heap.size W w')
    (hR2 : ∀ W, GlobM W → Calls Tryd.prog 30 #[.string S, .string ⟨#[58]⟩, .string ⟨#[59]⟩, .int .i64 1] W fun e w' => e = .returned (.string R2) ∧ Below W.heap.size W w')
    (hX : ∀ k : Nat, k < 8 → ∀ W, Glob W → Calls Tryd.prog 22 #[.string ((bads S R0 R1 R2).getD k default)] W fun e w' => e = .returned (.tuple #[.agg #[.int .i64 0, .int .i64 0], .int .i64 7]) ∧ Below W.heap.size W w')
    (w : World) (hG : GlobM w) :
    Calls Tryd.prog 8 #[.int .u32 a, .int .u32 b, .int .u8 c.toNat] w fun e w' => e = .returned (.bool true) ∧ Below w.heap.size w w' := by
  have HG := Lib.hid hG
  have HT := Lib.hid hT
  have HP := Lib.hid hP
  have HQ := Lib.hid hQ
  have HR0 := Lib.hid hR0
  have HR1 := Lib.hid hR1
  have HR2 := Lib.hid hR2
  have HX := Lib.hid hX
  clear hG hT hP hQ hR0 hR1 hR2 hX
  go_enter Tryd.func8, Tryd.ntmps8
  have B0 := Lib.hid ((Below.refl _ w).alloc (Nat.le_refl _) (.cells #[.int .i64 (1 + (a : Int)), .int .i64 (1 + (b : Int))] 24))
  have k0 := (Cell.new w #[.int .i64 (1 + (a : Int)), .int .i64 (1 + (b : Int))] 24 0 _ rfl).1
  have k1 := (Cell.new w #[.int .i64 (1 + (a : Int)), .int .i64 (1 + (b : Int))] 24 1 _ rfl).1
  go_wp2_with fail
  generalize w.alloc (.cells #[.int .i64 (1 + (a : Int)), .int .i64 (1 + (b : Int))] 24) = w1 at *
  refine (HT.out _ (HG.out.glob.below B0.out)).mono ?_
  clear HT
  rintro e w2 ⟨rfl, hb⟩
  have B2 := Lib.hid (after B0.out hb)
  have k0 := Lib.hid ((hb.cell (World.block_lt_of_cell? _ _ k0)).trans k0)
  have k1 := Lib.hid ((hb.cell (World.block_lt_of_cell? _ _ k1)).trans k1)
  clear hb B0
  go_wp2_with fail
  refine (HP.out _ (HG.out.glob.below B2.out)).mono ?_
  clear HP
  rintro e w3 ⟨rfl, hb⟩
  have B3 := Lib.hid (after B2.out hb)
  have k0 := ((hb.cell (World.block_lt_of_cell? _ _ k0.out)).trans k0.out)
  have k1 := ((hb.cell (World.block_lt_of_cell? _ _ k1.out)).trans k1.out)
  clear hb B2
  have B4 := Lib.hid ((B3.out.alloc B3.out.size (.cells #[.int .i64 (1 + (a : Int)), .int .i64 (1 + (b : Int))] 24)).alloc (by simp; have := B3.out.size; omega) (.cells #[.int .u8 c.toNat] 5))
  have k0 := ((World.cell?_alloc_lt w3 (.cells #[.int .i64 (1 + (a : Int)), .int .i64 (1 + (b : Int))] 24) _ (World.block_lt_of_cell? _ _ k0)).trans k0)
  have k1 := ((World.cell?_alloc_lt w3 (.cells #[.int .i64 (1 + (a : Int)), .int .i64 (1 + (b : Int))] 24) _ (World.block_lt_of_cell? _ _ k1)).trans k1)
  have d0 := (Cell.new w3 #[.int .i64 (1 + (a : Int)), .int .i64 (1 + (b : Int))] 24 0 _ rfl).1
  have d1 := (Cell.new w3 #[.int .i64 (1 + (a : Int)), .int .i64 (1 + (b : Int))] 24 1 _ rfl).1
  have k2 := (Cell.new (w3.alloc (.cells #[.int .i64 (1 + (a : Int)), .int .i64 (1 + (b : Int))] 24)) #[.int .u8 c.toNat] 5 0 _ rfl).1
  rw [World.size_alloc] at k2
  have hcv := Lib.hid (conv_one _ _ c k2)
  clear B3 k2
  go_wp2_with fail
  rw [hcv.out]
  have m1 : ¬ 9223372036854775807 < S.size + 1 := by omega
  have K0 := Lib.hid ((World.cell?_alloc_lt (w3.alloc (.cells #[.int .i64 (1 + (a : Int)), .int .i64 (1 + (b : Int))] 24)) (.cells #[.int .u8 c.toNat] 5) _ (World.block_lt_of_cell? _ _ k0)).trans k0)
  have K1 := Lib.hid ((World.cell?_alloc_lt (w3.alloc (.cells #[.int .i64 (1 + (a : Int)), .int .i64 (1 + (b : Int))] 24)) (.cells #[.int .u8 c.toNat] 5) _ (World.block_lt_of_cell? _ _ k1)).trans k1)
  clear hcv k0 k1 d0 d1
  generalize (w3.alloc (.cells #[.int .i64 (1 + (a : Int)), .int .i64 (1 + (b : Int))] 24)).alloc (.cells #[.int .u8 c.toNat] 5) = w4 at *
  go_wp2_with fail
  clear m1
  refine (HQ.out _ (HG.out.glob.below B4.out)).mono ?_
  clear HQ
  rintro e w5 ⟨rfl, hb⟩
  have B5 := Lib.hid (after B4.out hb)
  have k0 := ((hb.cell (World.block_lt_of_cell? _ _ K0.out)).trans K0.out)
  have k1 := ((hb.cell (World.block_lt_of_cell? _ _ K1.out)).trans K1.out)
  clear hb B4 K0 K1
  have B6 := Lib.hid (B5.out.alloc B5.out.size (.cells #[.int .i64 0, .int .i64 0] 24))
  have d0 := (Cell.new w5 #[.int .i64 0, .int .i64 0] 24 0 _ rfl).1
  have d1 := (Cell.new w5 #[.int .i64 0, .int .i64 0] 24 1 _ rfl).1
  have k0 := ((World.cell?_alloc_lt w5 (.cells #[.int .i64 0, .int .i64 0] 24) _ (World.block_lt_of_cell? _ _ k0)).trans k0)
  have k1 := ((World.cell?_alloc_lt w5 (.cells #[.int .i64 0, .int .i64 0] 24) _ (World.block_lt_of_cell? _ _ k1)).trans k1)
  clear B5
  have m0 : ¬ 9223372036854775807 < 1 + S.size := by omega
  have m2 : ¬ 9223372036854775807 < S.size + 2 := by omega
  go_wp2_with fail
  clear k0 k1 d0 d1
  generalize w5.alloc (.cells #[.int .i64 0, .int .i64 0] 24) = w6 at *
  refine (HR0.out _ (HG.out.below B6.out)).mono ?_
  clear HR0
  rintro e w7 ⟨rfl, hb⟩
  have B7 := Lib.hid (after B6.out hb)
  clear hb B6
  go_wp2_with fail
  refine (HR1.out _ (HG.out.below B7.out)).mono ?_
  clear HR1
  rintro e w8 ⟨rfl, hb⟩
  have B8 := Lib.hid (after B7.out hb)
  clear hb B7
  go_wp2_with fail
  refine (HR2.out _ (HG.out.below B8.out)).mono ?_
  clear HR2
  rintro e w9 ⟨rfl, hb⟩
  have B9 := Lib.hid (after B8.out hb)
  clear hb B8
  go_wp2_with fail
  have hc0 : ∀ k : Nat, k < 8 → Cell (w9.alloc (.cells #[.string (⟨#[48]⟩ ++ S), .string (⟨#[43]⟩ ++ S), .string (⟨#[32]⟩ ++ S), .string (S ++ ⟨#[58, 49]⟩), .string (⟨#[58]⟩ ++ S), .string R0, .string R1, .string R2] 9)) ⟨w9.heap.size, k, none⟩ (.string ((bads S R0 R1 R2).getD k default)) := by
    intro k hk
    obtain rfl | rfl | rfl | rfl | rfl | rfl | rfl | rfl : k = 0 ∨ k = 1 ∨ k = 2 ∨ k = 3 ∨ k = 4 ∨ k = 5 ∨ k = 6 ∨ k = 7 := by omega
    all_goals exact Cell.new w9 _ _ _ _ rfl
  have hb0 := Lib.hid (B9.out.alloc B9.out.size (.cells #[.string (⟨#[48]⟩ ++ S), .string (⟨#[43]⟩ ++ S), .string (⟨#[32]⟩ ++ S), .string (S ++ ⟨#[58, 49]⟩), .string (⟨#[58]⟩ ++ S), .string R0, .string R1, .string R2] 9))
  have hz0 := Lib.hid (show (w9.alloc (.cells #[.string (⟨#[48]⟩ ++ S), .string (⟨#[43]⟩ ++ S), .string (⟨#[32]⟩ ++ S), .string (S ++ ⟨#[58, 49]⟩), .string (⟨#[58]⟩ ++ S), .string R0, .string R1, .string R2] 9)).heap.size = w9.heap.size + 1 by simp)
  have HC := Lib.hid hc0
  clear hc0 B9 m0 m2
  generalize w9.alloc (.cells #[.string (⟨#[48]⟩ ++ S), .string (⟨#[43]⟩ ++ S), .string (⟨#[32]⟩ ++ S), .string (S ++ ⟨#[58, 49]⟩), .string (⟨#[58]⟩ ++ S), .string R0, .string R1, .string R2] 9) = w0 at *
  go_loopw [109] (fun i wr => ∃ k : Nat, k ≤ 8 ∧ i = .int .i64 k ∧ Below (w9.heap.size + 1) w0 wr) (fun i _ => 8 - (intOf i).toNat)
  case atStart => exact ⟨0, by omega, rfl, Below.refl _ _⟩
  case round =>
    obtain ⟨k, hk, rfl, hbr⟩ := hrel
    by_cases hlt : k < 8
    · have c0 := keep1 (HC.out k hlt) hbr (by omega)
      have HX' := Lib.hid (fun W => HX.out k hlt W)
      have HBR := Lib.hid hbr
      have HB0 := Lib.hid (after hb0.out (hbr.mono (by have := hz0.out; omega)))
      have hw := hbr.size
      have hz := hz0.out
      rw [hz] at hw
      clear hbr hz
      generalize (bads S R0 R1 R2).getD k default = x at *
      go_wp2_with fail
      refine (HX'.out _ (HG.out.glob.below HB0.out)).mono ?_
      clear HX'
      rintro e w2 ⟨rfl, hb⟩
      have B2 := Lib.hid (HBR.out.trans (hb.mono (by omega)))
      have hw2 := hb.size
      clear hb HBR HB0
      have B3 := Lib.hid (B2.out.alloc (by omega) (.cells #[.int .i64 0, .int .i64 0] 24))
      have f0 := (Cell.new w2 #[.int .i64 0, .int .i64 0] 24 0 _ rfl).1
      have f1 := (Cell.new w2 #[.int .i64 0, .int .i64 0] 24 1 _ rfl).1
      clear B2
      go_wp2_with fail
      exact ⟨⟨k + 1, by omega, by go_num, B3.out⟩, by simp [intOf]; omega⟩
    · obtain rfl : k = 8 := by omega
      have B5 := Lib.hid (after hb0.out (hbr.mono (by have := hz0.out; omega)))
      clear hbr hb0 HC hz0 HX
      go_wp2_with fail
      refine (works_calls _ (HG.out.glob.below B5.out)).mono ?_
      clear HG
      rintro e w6 ⟨rfl, hb⟩
      have B6 := Lib.hid (after B5.out hb)
      clear hb B5
      go_wp2_with fail
      go_ret
      exact ⟨rfl, B6.out⟩

set_option maxRecDepth 100000 in
set_option maxHeartbeats 4000000 in
theorem walkG (a b : Nat) (c : UInt8) (ha : a ≤ 4294967295) (hb0 : b ≤ 4294967295) (hc1 : 57 < c.toNat) (hc2 : c.toNat ≤ 255) (S R0 R1 R2 : ByteArray) (hS : S.size ≤ 100)
    (hT : ∀ W, Glob W → Calls Tryd.prog 20 #[.agg #[.int .i64 (1 + (a : Int)), .int .i64 (1 + (b : Int))]] W fun e w' => e = .returned (.tuple #[.string S, .int .i64 0]) ∧ Below W.heap.size W w')
    (hP : ∀ W, Glob W → Calls Tryd.prog 22 #[.string S] W fun e w' => e = .returned (.tuple #[.agg #[.int .i64 (1 + (a : Int)), .int .i64 (1 + (b : Int))], .int .i64 0]) ∧ Below W.heap.size W w')
    (hQ : ∀ W, Glob W → Calls Tryd.prog 22 #[.string (S ++ ⟨#[c]⟩)] W fun e w' => e = .returned (.tuple #[.agg #[.int .i64 0, .int .i64 0], .int .i64 7]) ∧ Below W.heap.size W w')
    (hR0 : ∀ W, GlobM W → Calls Tryd.prog 30 #[.string S, .string ⟨#[58]⟩, .string ⟨#[]⟩, .int .i64 1] W fun e w' => e = .returned (.string R0) ∧ Below W.heap.size W w')
    (hR1 : ∀ W, GlobM W → Calls Tryd.prog 30 #[.string S, .string ⟨#[58]⟩, .string ⟨#[58, 48]⟩, .int .i64 1] W fun e w' => e = .returned (.string R1) ∧ Below W.heap.size W w')
    (hR2 : ∀ W, GlobM W → Calls Tryd.prog 30 #[.string S, .string ⟨#[58]⟩, .string ⟨#[59]⟩, .int .i64 1] W fun e w' => e = .returned (.string R2) ∧ Below W.heap.size W w')
    (hX : ∀ k : Nat, k < 8 → ∀ W, Glob W → Calls Tryd.prog 22 #[.string ((bads S R0 R1 R2).getD k default)] W fun e w' => e = .returned (.tuple #[.agg #[.int .i64 0, .int .i64 0], .int .i64 7]) ∧ Below W.heap.size W w')
    (w : World) (hG : GlobM w) :
    Calls Tryd.prog 8 #[.int .u32 a, .int .u32 b, .int .u8 c.toNat] w fun e w' => e = .returned (.bool true) ∧ Below w.heap.size w w' := by
  have HG := Lib.hid hG
  have HT := Lib.hid hT
  have HP := Lib.hid hP
  have HQ := Lib.hid hQ
  have HR0 := Lib.hid hR0
  have HR1 := Lib.hid hR1
  have HR2 := Lib.hid hR2
  have HX := Lib.hid hX
  clear hG hT hP hQ hR0 hR1 hR2 hX
  go_enter Tryd.func8, Tryd.ntmps8
  have B0 := Lib.hid ((Below.refl _ w).alloc (Nat.le_refl _) (.cells #[.int .i64 (1 + (a : Int)), .int .i64 (1 + (b : Int))] 24))
  have k0 := (Cell.new w #[.int .i64 (1 + (a : Int)), .int .i64 (1 + (b : Int))] 24 0 _ rfl).1
  have k1 := (Cell.new w #[.int .i64 (1 + (a : Int)), .int .i64 (1 + (b : Int))] 24 1 _ rfl).1
  go_wp2_with fail
  generalize w.alloc (.cells #[.int .i64 (1 + (a : Int)), .int .i64 (1 + (b : Int))] 24) = w1 at *
  refine (HT.out _ (HG.out.glob.below B0.out)).mono ?_
  clear HT
  rintro e w2 ⟨rfl, hb⟩
  have B2 := Lib.hid (after B0.out hb)
  have k0 := Lib.hid ((hb.cell (World.block_lt_of_cell? _ _ k0)).trans k0)
  have k1 := Lib.hid ((hb.cell (World.block_lt_of_cell? _ _ k1)).trans k1)
  clear hb B0
  go_wp2_with fail
  refine (HP.out _ (HG.out.glob.below B2.out)).mono ?_
  clear HP
  rintro e w3 ⟨rfl, hb⟩
  have B3 := Lib.hid (after B2.out hb)
  have k0 := ((hb.cell (World.block_lt_of_cell? _ _ k0.out)).trans k0.out)
  have k1 := ((hb.cell (World.block_lt_of_cell? _ _ k1.out)).trans k1.out)
  clear hb B2
  have B4 := Lib.hid ((B3.out.alloc B3.out.size (.cells #[.int .i64 (1 + (a : Int)), .int .i64 (1 + (b : Int))] 24)).alloc (by simp; have := B3.out.size; omega) (.cells #[.int .u8 c.toNat] 5))
  have k0 := ((World.cell?_alloc_lt w3 (.cells #[.int .i64 (1 + (a : Int)), .int .i64 (1 + (b : Int))] 24) _ (World.block_lt_of_cell? _ _ k0)).trans k0)
  have k1 := ((World.cell?_alloc_lt w3 (.cells #[.int .i64 (1 + (a : Int)), .int .i64 (1 + (b : Int))] 24) _ (World.block_lt_of_cell? _ _ k1)).trans k1)
  have d0 := (Cell.new w3 #[.int .i64 (1 + (a : Int)), .int .i64 (1 + (b : Int))] 24 0 _ rfl).1
  have d1 := (Cell.new w3 #[.int .i64 (1 + (a : Int)), .int .i64 (1 + (b : Int))] 24 1 _ rfl).1
  have k2 := (Cell.new (w3.alloc (.cells #[.int .i64 (1 + (a : Int)), .int .i64 (1 + (b : Int))] 24)) #[.int .u8 c.toNat] 5 0 _ rfl).1
  rw [World.size_alloc] at k2
  have hcv := Lib.hid (conv_one _ _ c k2)
  clear B3 k2
  go_wp2_with fail
  rw [hcv.out]
  have m1 : ¬ 9223372036854775807 < S.size + 1 := by omega
  have K0 := Lib.hid ((World.cell?_alloc_lt (w3.alloc (.cells #[.int .i64 (1 + (a : Int)), .int .i64 (1 + (b : Int))] 24)) (.cells #[.int .u8 c.toNat] 5) _ (World.block_lt_of_cell? _ _ k0)).trans k0)
  have K1 := Lib.hid ((World.cell?_alloc_lt (w3.alloc (.cells #[.int .i64 (1 + (a : Int)), .int .i64 (1 + (b : Int))] 24)) (.cells #[.int .u8 c.toNat] 5) _ (World.block_lt_of_cell? _ _ k1)).trans k1)
  clear hcv k0 k1 d0 d1
  generalize (w3.alloc (.cells #[.int .i64 (1 + (a : Int)), .int .i64 (1 + (b : Int))] 24)).alloc (.cells #[.int .u8 c.toNat] 5) = w4 at *
  go_wp2_with fail
  clear m1
  refine (HQ.out _ (HG.out.glob.below B4.out)).mono ?_
  clear HQ
  rintro e w5 ⟨rfl, hb⟩
  have B5 := Lib.hid (after B4.out hb)
  have k0 := ((hb.cell (World.block_lt_of_cell? _ _ K0.out)).trans K0.out)
  have k1 := ((hb.cell (World.block_lt_of_cell? _ _ K1.out)).trans K1.out)
  clear hb B4 K0 K1
  have B6 := Lib.hid (B5.out.alloc B5.out.size (.cells #[.int .i64 0, .int .i64 0] 24))
  have d0 := (Cell.new w5 #[.int .i64 0, .int .i64 0] 24 0 _ rfl).1
  have d1 := (Cell.new w5 #[.int .i64 0, .int .i64 0] 24 1 _ rfl).1
  have k0 := ((World.cell?_alloc_lt w5 (.cells #[.int .i64 0, .int .i64 0] 24) _ (World.block_lt_of_cell? _ _ k0)).trans k0)
  have k1 := ((World.cell?_alloc_lt w5 (.cells #[.int .i64 0, .int .i64 0] 24) _ (World.block_lt_of_cell? _ _ k1)).trans k1)
  clear B5
  have m0 : ¬ 9223372036854775807 < 1 + S.size := by omega
  have m2 : ¬ 9223372036854775807 < S.size + 2 := by omega
  go_wp2_with fail
  clear k0 k1 d0 d1
  generalize w5.alloc (.cells #[.int .i64 0, .int .i64 0] 24) = w6 at *
  refine (HR0.out _ (HG.out.below B6.out)).mono ?_
  clear HR0
  rintro e w7 ⟨rfl, hb⟩
  have B7 := Lib.hid (after B6.out hb)
  clear hb B6
  go_wp2_with fail
  refine (HR1.out _ (HG.out.below B7.out)).mono ?_
  clear HR1
  rintro e w8 ⟨rfl, hb⟩
  have B8 := Lib.hid (after B7.out hb)
  clear hb B7
  go_wp2_with fail
  refine (HR2.out _ (HG.out.below B8.out)).mono ?_
  clear HR2
  rintro e w9 ⟨rfl, hb⟩
  have B9 := Lib.hid (after B8.out hb)
  clear hb B8
  go_wp2_with fail
  have hc0 : ∀ k : Nat, k < 8 → Cell (w9.alloc (.cells #[.string (⟨#[48]⟩ ++ S), .string (⟨#[43]⟩ ++ S), .string (⟨#[32]⟩ ++ S), .string (S ++ ⟨#[58, 49]⟩), .string (⟨#[58]⟩ ++ S), .string R0, .string R1, .string R2] 9)) ⟨w9.heap.size, k, none⟩ (.string ((bads S R0 R1 R2).getD k default)) := by
    intro k hk
    obtain rfl | rfl | rfl | rfl | rfl | rfl | rfl | rfl : k = 0 ∨ k = 1 ∨ k = 2 ∨ k = 3 ∨ k = 4 ∨ k = 5 ∨ k = 6 ∨ k = 7 := by omega
    all_goals exact Cell.new w9 _ _ _ _ rfl
  have hb0 := Lib.hid (B9.out.alloc B9.out.size (.cells #[.string (⟨#[48]⟩ ++ S), .string (⟨#[43]⟩ ++ S), .string (⟨#[32]⟩ ++ S), .string (S ++ ⟨#[58, 49]⟩), .string (⟨#[58]⟩ ++ S), .string R0, .string R1, .string R2] 9))
  have hz0 := Lib.hid (show (w9.alloc (.cells #[.string (⟨#[48]⟩ ++ S), .string (⟨#[43]⟩ ++ S), .string (⟨#[32]⟩ ++ S), .string (S ++ ⟨#[58, 49]⟩), .string (⟨#[58]⟩ ++ S), .string R0, .string R1, .string R2] 9)).heap.size = w9.heap.size + 1 by simp)
  have HC := Lib.hid hc0
  clear hc0 B9 m0 m2
  generalize w9.alloc (.cells #[.string (⟨#[48]⟩ ++ S), .string (⟨#[43]⟩ ++ S), .string (⟨#[32]⟩ ++ S), .string (S ++ ⟨#[58, 49]⟩), .string (⟨#[58]⟩ ++ S), .string R0, .string R1, .string R2] 9) = w0 at *
  go_loopw [109] (fun i wr => ∃ k : Nat, k ≤ 8 ∧ i = .int .i64 k ∧ Below (w9.heap.size + 1) w0 wr) (fun i _ => 8 - (intOf i).toNat)
  case atStart => exact ⟨0, by omega, rfl, Below.refl _ _⟩
  case round =>
    obtain ⟨k, hk, rfl, hbr⟩ := hrel
    by_cases hlt : k < 8
    · have c0 := keep1 (HC.out k hlt) hbr (by omega)
      have HX' := Lib.hid (fun W => HX.out k hlt W)
      have HBR := Lib.hid hbr
      have HB0 := Lib.hid (after hb0.out (hbr.mono (by have := hz0.out; omega)))
      have hw := hbr.size
      have hz := hz0.out
      rw [hz] at hw
      clear hbr hz
      generalize (bads S R0 R1 R2).getD k default = x at *
      go_wp2_with fail
      refine (HX'.out _ (HG.out.glob.below HB0.out)).mono ?_
      clear HX'
      rintro e w2 ⟨rfl, hb⟩
      have B2 := Lib.hid (HBR.out.trans (hb.mono (by omega)))
      have hw2 := hb.size
      clear hb HBR HB0
      have B3 := Lib.hid (B2.out.alloc (by omega) (.cells #[.int .i64 0, .int .i64 0] 24))
      have f0 := (Cell.new w2 #[.int .i64 0, .int .i64 0] 24 0 _ rfl).1
      have f1 := (Cell.new w2 #[.int .i64 0, .int .i64 0] 24 1 _ rfl).1
      clear B2
      go_wp2_with fail
      exact ⟨⟨k + 1, by omega, by go_num, B3.out⟩, by simp [intOf]; omega⟩
    · obtain rfl : k = 8 := by omega
      have B5 := Lib.hid (after hb0.out (hbr.mono (by have := hz0.out; omega)))
      clear hbr hb0 HC hz0 HX
      go_wp2_with fail
      refine (works_calls _ (HG.out.glob.below B5.out)).mono ?_
      clear HG
      rintro e w6 ⟨rfl, hb⟩
      have B6 := Lib.hid (after B5.out hb)
      clear hb B5
      go_wp2_with fail
      go_ret
      exact ⟨rfl, B6.out⟩
end Go.Proofs.YthjpcfohpbbacaaDoor.decoded
