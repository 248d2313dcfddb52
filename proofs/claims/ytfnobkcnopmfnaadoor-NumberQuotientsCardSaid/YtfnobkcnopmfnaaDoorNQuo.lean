/-
  NumberQuotients: the law's walk.
-/
import Derived.Test.YtfnobkcnopmfnaaDoorNLaws
namespace Go.Proofs.YtfnobkcnopmfnaaDoor.quo
open Go Go.RowKit Go.Proofs.YtfnobkcnopmfnaaDoor Go.Proofs.YtfnobkcnopmfnaaDoor.laws

theorem tmod_facts (a b : Int) : (0 < a.tmod b → 0 ≤ a) ∧ (a.tmod b < 0 → a ≤ 0) ∧ (0 < b → a.tmod b < b ∧ -b < a.tmod b) ∧ (b < 0 → a.tmod b < -b ∧ b < a.tmod b) := by
  refine ⟨fun h => ?_, fun h => ?_, fun h => ⟨Int.tmod_lt_of_pos a h, ?_⟩, fun h => ?_⟩
  · apply Classical.byContradiction
    intro hn
    have := Int.tmod_nonneg b (show 0 ≤ -a by omega)
    rw [Int.neg_tmod] at this
    omega
  · apply Classical.byContradiction
    intro hn
    have := Int.tmod_nonneg b (show 0 ≤ a by omega)
    omega
  · have := Int.tmod_lt_of_pos (-a) h
    rw [Int.neg_tmod] at this
    omega
  · have h1 := Int.tmod_lt_of_pos a (show 0 < -b by omega)
    have h2 := Int.tmod_lt_of_pos (-a) (show 0 < -b by omega)
    rw [Int.tmod_neg] at h1 h2
    rw [Int.neg_tmod] at h2
    omega
theorem sum_is (a b : Int) (h : okI a) : wrap64 (wrap64 (wrap64 (a.tdiv b) * b) + a.tmod b) = a := by
  rw [wrap_mul]
  have h1 := Int.mul_tdiv_add_tmod a b
  rw [Int.mul_comm] at h1
  generalize a.tdiv b * b = p at *
  generalize a.tmod b = r at *
  subst h1
  unfold okI at h
  unfold wrap64
  omega

set_option maxRecDepth 100000 in
set_option maxHeartbeats 4000000 in
theorem law0 (a : Int) (w : World) (hG : Glob w) :
    Calls Tryd.prog 8 #[.int .i64 a, .int .i64 0] w fun e w' => e = .returned (.bool true) ∧ Below w.heap.size w w' := by
  have HG := Lib.hid hG
  have H1 := do_calls 4 a 0
  have H2 := do_calls 5 a 0
  rw [show doN 4 a 0 = some (0, 1) from rfl] at H1
  rw [show doN 5 a 0 = some (0, 1) from rfl] at H2
  simp only [encD] at H1 H2
  have H1 := Lib.hid H1
  have H2 := Lib.hid H2
  clear hG
  go_enter Tryd.func8, Tryd.ntmps8
  go_wp2_with fail
  refine (H1.out _).mono ?_
  rintro e w' ⟨rfl, rfl⟩
  go_wp2_with fail
  refine (H2.out _).mono ?_
  rintro e w' ⟨rfl, rfl⟩
  go_wp2_with fail
  refine (works_calls _ HG.out).mono ?_
  rintro e w2 ⟨rfl, hb⟩
  have B2 := Lib.hid hb
  clear hb
  go_wp2_with fail
  go_ret
  exact ⟨rfl, B2.out⟩

/-- What the law's calls give. -/
structure Res (a b q r p : Int) : Prop where
  cd : ∀ W, Calls Tryd.prog 19 #[.int .i64 4, .int .i64 a, .int .i64 b] W fun e w' => e = .returned (.tuple #[.int .i64 q, .int .i64 0, .int .i64 0]) ∧ W = w'
  cm : ∀ W, Calls Tryd.prog 19 #[.int .i64 5, .int .i64 a, .int .i64 b] W fun e w' => e = .returned (.tuple #[.int .i64 r, .int .i64 0, .int .i64 0]) ∧ W = w'
  cp : ∀ W, Calls Tryd.prog 25 #[.int .i64 3, .int .i64 q, .int .i64 b] W fun e w' => e = .returned (.tuple #[.int .i64 p, .bool true]) ∧ W = w'
  cs : ∀ W, Calls Tryd.prog 25 #[.int .i64 1, .int .i64 p, .int .i64 r] W fun e w' => e = .returned (.tuple #[.int .i64 a, .bool true]) ∧ W = w'

set_option maxRecDepth 100000 in
set_option maxHeartbeats 4000000 in
theorem walkPP (a b q r p : Int) (hr0 : -9223372036854775808 ≤ r) (hr1 : r ≤ 9223372036854775807) (hb0 : -9223372036854775808 ≤ b) (hb1 : b ≤ 9223372036854775807) (heb : (b == 0) = false) (h1 : 0 < r) (h2 : 0 ≤ a) (h3 : 0 < b) (h4 : r < b) (hR : Res a b q r p) (w : World) (hG : Glob w) :
    Calls Tryd.prog 8 #[.int .i64 a, .int .i64 b] w fun e w' => e = .returned (.bool true) ∧ Below w.heap.size w w' := by
  have HG := Lib.hid hG
  have HR := Lib.hid hR
  clear hG hR
  go_enter Tryd.func8, Tryd.ntmps8
  go_wp2_with fail
  refine (HR.out.cd _).mono ?_
  rintro e w' ⟨rfl, rfl⟩
  go_wp2_with fail
  refine (HR.out.cm _).mono ?_
  rintro e w' ⟨rfl, rfl⟩
  go_wp2_with fail
  refine (HR.out.cp _).mono ?_
  rintro e w' ⟨rfl, rfl⟩
  go_wp2_with fail
  refine (HR.out.cs _).mono ?_
  rintro e w' ⟨rfl, rfl⟩
  clear HR
  go_wp2_with fail
  refine (works_calls _ HG.out).mono ?_
  rintro e w2 ⟨rfl, hb⟩
  have B2 := Lib.hid hb
  clear hb
  go_wp2_with fail
  go_ret
  exact ⟨rfl, B2.out⟩

set_option maxRecDepth 100000 in
set_option maxHeartbeats 4000000 in
theorem walkPN (a b q r p : Int) (hr0 : -9223372036854775808 ≤ r) (hr1 : r ≤ 9223372036854775807) (hb0 : -9223372036854775808 ≤ b) (hb1 : b ≤ 9223372036854775807) (heb : (b == 0) = false) (h1 : 0 < r) (h2 : 0 ≤ a) (h3 : b < 0) (h4 : r < -b) (hR : Res a b q r p) (w : World) (hG : Glob w) :
    Calls Tryd.prog 8 #[.int .i64 a, .int .i64 b] w fun e w' => e = .returned (.bool true) ∧ Below w.heap.size w w' := by
  have HG := Lib.hid hG
  have HR := Lib.hid hR
  clear hG hR
  go_enter Tryd.func8, Tryd.ntmps8
  go_wp2_with fail
  refine (HR.out.cd _).mono ?_
  rintro e w' ⟨rfl, rfl⟩
  go_wp2_with fail
  refine (HR.out.cm _).mono ?_
  rintro e w' ⟨rfl, rfl⟩
  go_wp2_with fail
  refine (HR.out.cp _).mono ?_
  rintro e w' ⟨rfl, rfl⟩
  go_wp2_with fail
  refine (HR.out.cs _).mono ?_
  rintro e w' ⟨rfl, rfl⟩
  clear HR
  go_wp2_with fail
  refine (works_calls _ HG.out).mono ?_
  rintro e w2 ⟨rfl, hb⟩
  have B2 := Lib.hid hb
  clear hb
  go_wp2_with fail
  go_ret
  exact ⟨rfl, B2.out⟩

set_option maxRecDepth 100000 in
set_option maxHeartbeats 4000000 in
theorem walkNP (a b q r p : Int) (hr0 : -9223372036854775808 ≤ r) (hr1 : r ≤ 9223372036854775807) (hb0 : -9223372036854775808 ≤ b) (hb1 : b ≤ 9223372036854775807) (heb : (b == 0) = false) (h1 : r < 0) (h2 : a ≤ 0) (h3 : 0 < b) (h4 : -b < r) (hR : Res a b q r p) (w : World) (hG : Glob w) :
    Calls Tryd.prog 8 #[.int .i64 a, .int .i64 b] w fun e w' => e = .returned (.bool true) ∧ Below w.heap.size w w' := by
  have HG := Lib.hid hG
  have HR := Lib.hid hR
  clear hG hR
  go_enter Tryd.func8, Tryd.ntmps8
  go_wp2_with fail
  refine (HR.out.cd _).mono ?_
  rintro e w' ⟨rfl, rfl⟩
  go_wp2_with fail
  refine (HR.out.cm _).mono ?_
  rintro e w' ⟨rfl, rfl⟩
  go_wp2_with fail
  refine (HR.out.cp _).mono ?_
  rintro e w' ⟨rfl, rfl⟩
  go_wp2_with fail
  refine (HR.out.cs _).mono ?_
  rintro e w' ⟨rfl, rfl⟩
  clear HR
  go_wp2_with fail
  refine (works_calls _ HG.out).mono ?_
  rintro e w2 ⟨rfl, hb⟩
  have B2 := Lib.hid hb
  clear hb
  go_wp2_with fail
  go_ret
  exact ⟨rfl, B2.out⟩

set_option maxRecDepth 100000 in
set_option maxHeartbeats 4000000 in
theorem walkNN (a b q r p : Int) (hr0 : -9223372036854775808 ≤ r) (hr1 : r ≤ 9223372036854775807) (hb0 : -9223372036854775808 ≤ b) (hb1 : b ≤ 9223372036854775807) (heb : (b == 0) = false) (h1 : r < 0) (h2 : a ≤ 0) (h3 : b < 0) (h4 : b < r) (hR : Res a b q r p) (w : World) (hG : Glob w) :
    Calls Tryd.prog 8 #[.int .i64 a, .int .i64 b] w fun e w' => e = .returned (.bool true) ∧ Below w.heap.size w w' := by
  have HG := Lib.hid hG
  have HR := Lib.hid hR
  clear hG hR
  go_enter Tryd.func8, Tryd.ntmps8
  go_wp2_with fail
  refine (HR.out.cd _).mono ?_
  rintro e w' ⟨rfl, rfl⟩
  go_wp2_with fail
  refine (HR.out.cm _).mono ?_
  rintro e w' ⟨rfl, rfl⟩
  go_wp2_with fail
  refine (HR.out.cp _).mono ?_
  rintro e w' ⟨rfl, rfl⟩
  go_wp2_with fail
  refine (HR.out.cs _).mono ?_
  rintro e w' ⟨rfl, rfl⟩
  clear HR
  go_wp2_with fail
  refine (works_calls _ HG.out).mono ?_
  rintro e w2 ⟨rfl, hb⟩
  have B2 := Lib.hid hb
  clear hb
  go_wp2_with fail
  go_ret
  exact ⟨rfl, B2.out⟩

set_option maxRecDepth 100000 in
set_option maxHeartbeats 4000000 in
theorem walkZP (a b q r p : Int) (hb0 : -9223372036854775808 ≤ b) (hb1 : b ≤ 9223372036854775807) (heb : (b == 0) = false) (h1 : r = 0) (h3 : 0 < b) (hR : Res a b q r p) (w : World) (hG : Glob w) :
    Calls Tryd.prog 8 #[.int .i64 a, .int .i64 b] w fun e w' => e = .returned (.bool true) ∧ Below w.heap.size w w' := by
  subst h1
  have HG := Lib.hid hG
  have HR := Lib.hid hR
  clear hG hR
  go_enter Tryd.func8, Tryd.ntmps8
  go_wp2_with fail
  refine (HR.out.cd _).mono ?_
  rintro e w' ⟨rfl, rfl⟩
  go_wp2_with fail
  refine (HR.out.cm _).mono ?_
  rintro e w' ⟨rfl, rfl⟩
  go_wp2_with fail
  refine (HR.out.cp _).mono ?_
  rintro e w' ⟨rfl, rfl⟩
  go_wp2_with fail
  refine (HR.out.cs _).mono ?_
  rintro e w' ⟨rfl, rfl⟩
  clear HR
  go_wp2_with fail
  refine (works_calls _ HG.out).mono ?_
  rintro e w2 ⟨rfl, hb⟩
  have B2 := Lib.hid hb
  clear hb
  go_wp2_with fail
  go_ret
  exact ⟨rfl, B2.out⟩

set_option maxRecDepth 100000 in
set_option maxHeartbeats 4000000 in
theorem walkZN (a b q r p : Int) (hb0 : -9223372036854775808 ≤ b) (hb1 : b ≤ 9223372036854775807) (heb : (b == 0) = false) (h1 : r = 0) (h3 : b < 0) (hR : Res a b q r p) (w : World) (hG : Glob w) :
    Calls Tryd.prog 8 #[.int .i64 a, .int .i64 b] w fun e w' => e = .returned (.bool true) ∧ Below w.heap.size w w' := by
  subst h1
  have HG := Lib.hid hG
  have HR := Lib.hid hR
  clear hG hR
  go_enter Tryd.func8, Tryd.ntmps8
  go_wp2_with fail
  refine (HR.out.cd _).mono ?_
  rintro e w' ⟨rfl, rfl⟩
  go_wp2_with fail
  refine (HR.out.cm _).mono ?_
  rintro e w' ⟨rfl, rfl⟩
  go_wp2_with fail
  refine (HR.out.cp _).mono ?_
  rintro e w' ⟨rfl, rfl⟩
  go_wp2_with fail
  refine (HR.out.cs _).mono ?_
  rintro e w' ⟨rfl, rfl⟩
  clear HR
  go_wp2_with fail
  refine (works_calls _ HG.out).mono ?_
  rintro e w2 ⟨rfl, hb⟩
  have B2 := Lib.hid hb
  clear hb
  go_wp2_with fail
  go_ret
  exact ⟨rfl, B2.out⟩

theorem law (a b : Int) (h1 : -9223372036854775808 ≤ a) (h2 : a ≤ 9223372036854775807) (h3 : -9223372036854775808 ≤ b) (h4 : b ≤ 9223372036854775807) (w : World) (hG : Glob w) :
    Calls Tryd.prog 8 #[.int .i64 a, .int .i64 b] w fun e w' => e = .returned (.bool true) ∧ Below w.heap.size w w' := by
  by_cases hb : b = 0
  · subst hb; exact law0 a w hG
  · have hR : Res a b (wrap64 (a.tdiv b)) (a.tmod b) (wrap64 (wrap64 (a.tdiv b) * b)) := by
      have hd : doN 4 a b = some (wrap64 (a.tdiv b), 0) := by unfold doN; rw [if_neg (by decide), if_neg (by decide), if_neg (by decide), if_pos rfl, if_neg hb]
      have hm : doN 5 a b = some (a.tmod b, 0) := by unfold doN; rw [if_neg (by decide), if_neg (by decide), if_neg (by decide), if_neg (by decide), if_pos rfl, if_neg hb]
      refine ⟨fun W => ?_, fun W => ?_, fun W => doM _ _ _ rfl W, fun W => doA _ _ _ (sum_is a b ⟨h1, h2⟩) W⟩
      · have := do_calls 4 a b W; rw [hd] at this; exact this
      · have := do_calls 5 a b W; rw [hm] at this; exact this
    obtain ⟨f1, f2, f3, f4⟩ := tmod_facts a b
    have heb : (b == 0) = false := beq_eq_false_iff_ne.2 hb
    generalize wrap64 (wrap64 (a.tdiv b) * b) = p at *
    generalize wrap64 (a.tdiv b) = q at *
    generalize a.tmod b = r at *
    by_cases hp : 0 < b
    · have := f3 hp
      by_cases r1 : 0 < r
      · exact walkPP a b q r p (by omega) (by omega) h3 h4 heb r1 (f1 r1) hp (by omega) hR w hG
      · by_cases r2 : r < 0
        · exact walkNP a b q r p (by omega) (by omega) h3 h4 heb r2 (f2 r2) hp (by omega) hR w hG
        · exact walkZP a b q r p h3 h4 heb (by omega) hp hR w hG
    · have := f4 (by omega)
      by_cases r1 : 0 < r
      · exact walkPN a b q r p (by omega) (by omega) h3 h4 heb r1 (f1 r1) (by omega) (by omega) hR w hG
      · by_cases r2 : r < 0
        · exact walkNN a b q r p (by omega) (by omega) h3 h4 heb r2 (f2 r2) (by omega) (by omega) hR w hG
        · exact walkZN a b q r p h3 h4 heb (by omega) (by omega) hR w hG
end Go.Proofs.YtfnobkcnopmfnaaDoor.quo
