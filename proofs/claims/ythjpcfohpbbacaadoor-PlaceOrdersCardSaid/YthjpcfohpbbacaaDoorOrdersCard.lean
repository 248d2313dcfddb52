/-
  PlaceOrders: for every three places the law returns true; its arguments read afterwards as before. Condition: the five listed variables of the library hold what their initialisers lay (the card ties that to the program's text).
-/
import Derived.Test.YthjpcfohpbbacaaDoorOrders
namespace Go.Proofs.YthjpcfohpbbacaaDoor.orders
open Go Go.ChangeShapes Go.WideShapes Go.ChangeAt Go.RowKit Go.Joins Go.Proofs.YthjpcfohpbbacaaDoor

theorem cmp_calls (a0 a1 b0 b1 : Int) (W : World) :
    Calls Tryd.prog 24 #[.agg #[.int .i64 a0, .int .i64 a1], .agg #[.int .i64 b0, .int .i64 b1]] W fun e w' => e = .returned (.int .i64 (cmp3 a0 a1 b0 b1)) ∧ Below W.heap.size W w' :=
  compare_calls a0 a1 b0 b1 W

theorem cmp_lt {a0 a1 b0 b1 : Int} (h : a0 < b0 ∨ a0 = b0 ∧ a1 < b1) : cmp3 a0 a1 b0 b1 = -1 := by
  unfold cmp3 Lib.compareInt
  repeat' split
  all_goals omega
theorem cmp_gt {a0 a1 b0 b1 : Int} (h : b0 < a0 ∨ a0 = b0 ∧ b1 < a1) : cmp3 a0 a1 b0 b1 = 1 := by
  unfold cmp3 Lib.compareInt
  repeat' split
  all_goals omega
theorem cmp_eq (a0 a1 : Int) : cmp3 a0 a1 a0 a1 = 0 := by
  unfold cmp3 Lib.compareInt
  repeat' split
  all_goals omega
theorem le_iff (a0 a1 b0 b1 : Int) : cmp3 a0 a1 b0 b1 ≤ 0 ↔ a0 < b0 ∨ a0 = b0 ∧ a1 ≤ b1 := by
  unfold cmp3 Lib.compareInt
  repeat' split
  all_goals omega

theorem law (a0 a1 b0 b1 c0 c1 : Int) (w : World) (hG : Glob w) :
    Calls Tryd.prog 9 #[.agg #[.int .i64 a0, .int .i64 a1], .agg #[.int .i64 b0, .int .i64 b1], .agg #[.int .i64 c0, .int .i64 c1]] w fun e w' => e = .returned (.bool true) ∧ Below w.heap.size w w' := by
  have hy := fun W => cmp_calls b0 b1 c0 c1 W
  have hz := fun W => cmp_calls a0 a1 c0 c1 W
  have tr : (a0 < b0 ∨ a0 = b0 ∧ a1 ≤ b1) → cmp3 b0 b1 c0 c1 ≤ 0 → cmp3 a0 a1 c0 c1 ≤ 0 := fun h1 h2 => by
    rw [le_iff] at h2 ⊢
    omega
  have hx := fun W => cmp_calls a0 a1 b0 b1 W
  have hv := fun W => cmp_calls b0 b1 a0 a1 W
  by_cases hlt : a0 < b0
  · rw [cmp_lt (.inl hlt)] at hx
    rw [cmp_gt (.inl hlt)] at hv
    have e0 : (a0 == b0) = false := by rw [beq_eq_false_iff_ne]; omega
    by_cases ey : cmp3 b0 b1 c0 c1 ≤ 0
    · exact walk_a1 a0 a1 b0 b1 c0 c1 _ _ e0 (by simpa using hlt) (by simpa using ey) (by have := tr (.inl hlt) ey; simp; omega) hx hy hz hv w hG
    · exact walk_a2 a0 a1 b0 b1 c0 c1 _ _ e0 (by simpa using hlt) (by simpa using ey) hx hy hz hv w hG
  · by_cases hgt : b0 < a0
    · rw [cmp_gt (.inl hgt)] at hx
      rw [cmp_lt (.inl hgt)] at hv
      have e0 : (a0 == b0) = false := by rw [beq_eq_false_iff_ne]; omega
      exact walk_b a0 a1 b0 b1 c0 c1 _ _ e0 (by simpa using hlt) hx hy hz hv w hG
    · obtain rfl : a0 = b0 := by omega
      have e0 : (a0 == a0) = true := by simp
      by_cases h1 : a1 < b1
      · rw [cmp_lt (.inr ⟨rfl, h1⟩)] at hx
        rw [cmp_gt (.inr ⟨rfl, h1⟩)] at hv
        have e1 : (a1 == b1) = false := by rw [beq_eq_false_iff_ne]; omega
        by_cases ey : cmp3 a0 b1 c0 c1 ≤ 0
        · exact walk_c1 a0 a1 a0 b1 c0 c1 _ _ e0 e1 (by simp) (by simpa using ey) (by have := tr (.inr ⟨rfl, by omega⟩) ey; simp; omega) hx hy hz hv w hG
        · exact walk_c2 a0 a1 a0 b1 c0 c1 _ _ e0 e1 (by simp) (by simpa using ey) hx hy hz hv w hG
      · by_cases h2 : b1 < a1
        · rw [cmp_gt (.inr ⟨rfl, h2⟩)] at hx
          rw [cmp_lt (.inr ⟨rfl, h2⟩)] at hv
          have e1 : (a1 == b1) = false := by rw [beq_eq_false_iff_ne]; omega
          exact walk_d a0 a1 a0 b1 c0 c1 _ _ e0 e1 (by simp) hx hy hz hv w hG
        · obtain rfl : a1 = b1 := by omega
          have e1 : (a1 == a1) = true := by simp
          rw [cmp_eq] at hx hv
          by_cases ey : cmp3 a0 a1 c0 c1 ≤ 0
          · exact walk_e1 a0 a1 a0 a1 c0 c1 _ _ e0 e1 (by simp) (by simpa using ey) (by simp; omega) hx hy hz hv w hG
          · exact walk_e2 a0 a1 a0 a1 c0 c1 _ _ e0 e1 (by simp) (by simpa using ey) hx hy hz hv w hG

set_option maxRecDepth 100000 in
theorem contract (H : Type) (enc : TypeId × Value → H) (W : World) (base : Nat) (args : Array Value) (ds gs : List (DataW H)) (before : List MemPlace)
    (hval : ∀ (j : Nat) t v, Tryd.f9.params[j]? = some t → args[j]? = some v → Value.okWide Tryd.prog W .any base t v)
    (hW : DataW.Whole enc Tryd.prog Tryd.f9.params.toList Rows.placeOrdersSpec.vars false W args.toList ds gs before) (hG : Glob W) :
    Calls Tryd.prog 9 args W fun e W' => ∃ v, e = .returned v ∧ Rows.placeOrdersSpec.post enc Tryd.prog Tryd.f9 false true false false W args v W' := by
  have hW' := hW
  obtain ⟨p, q, hA0, hV, rfl, hfz, hnd⟩ := hW
  have hA : DataW.TrodAll enc Tryd.prog W 0 (fun _ => true) true Tryd.f9.params.toList args.toList ds p := hA0
  rw [Tryd.params9] at hA hval
  obtain ⟨v0, vs0, d0, ds0, p0, q0, hargs, rfl, rfl, h0, r0⟩ := trodAll_cons hA
  obtain ⟨v1, vs1, d1, ds1, p1, q1, rfl, rfl, rfl, h1, r1⟩ := trodAll_cons r0
  obtain ⟨v2, vs2, d2, ds2, p2, q2, rfl, rfl, rfl, h2, r2⟩ := trodAll_cons r1
  obtain ⟨rfl, rfl, rfl⟩ := trodAll_nil r2
  obtain rfl : args = #[v0, v1, v2] := by cases args; simp_all
  obtain ⟨rfl, rfl⟩ := trodVars_none hV
  obtain ⟨a0, a1, rfl, rfl, rfl, wa0, wa1⟩ := open_place (hval 0 24 v0 rfl rfl) h0
  obtain ⟨b0, b1, rfl, rfl, rfl, wb0, wb1⟩ := open_place (hval 1 24 v1 rfl rfl) h1
  obtain ⟨c0, c1, rfl, rfl, rfl, wc0, wc1⟩ := open_place (hval 2 24 v2 rfl rfl) h2
  clear hA0
  simp only [List.append_nil] at hW'
  refine (law a0 a1 b0 b1 c0 c1 W hG).mono fun e W' ⟨he, hb⟩ => ?_
  subst he
  exact ⟨_, rfl, post_here (pa := []) (pv := []) hW' (fun _ _ _ => trodAll_cons_mk (shut_bool Tryd.underlying4 _) trodAll_mk0)
    (fun _ => trodAll_cons_mk (shut_place wa0 wa1) (trodAll_cons_mk (shut_place wb0 wb1) (trodAll_cons_mk (shut_place wc0 wc1) trodAll_mk0))) (fun _ => rfl) rfl hb⟩

theorem laid_met (os : Os) : laidMet Tryd.prog Rows.placeOrdersRow.laid ((laidWorld os).forCall (fun _ _ => 0) ⟨#[], #[.agg #[.int .i64 0, .int .i64 0], .agg #[.int .i64 0, .int .i64 0], .agg #[.int .i64 0, .int .i64 0]], []⟩).memory :=
  laidMet_of_run3 8 (by kernel_rfl) (by kernel_rfl) (by kernel_rfl)
theorem reads (os : Os) {H : Type} (enc : TypeId × Value → H) : ∃ places, DataW.whole enc Tryd.prog ((laidWorld os).forCall (fun _ _ => 0) ⟨#[], #[.agg #[.int .i64 0, .int .i64 0], .agg #[.int .i64 0, .int .i64 0], .agg #[.int .i64 0, .int .i64 0]], []⟩).memory Tryd.f9.params.toList Rows.placeOrdersSpec.vars false #[.agg #[.int .i64 0, .int .i64 0], .agg #[.int .i64 0, .int .i64 0], .agg #[.int .i64 0, .int .i64 0]].toList 8 = some ([.agg [.lit (.int .i64 0), .lit (.int .i64 0)], .agg [.lit (.int .i64 0), .lit (.int .i64 0)], .agg [.lit (.int .i64 0), .lit (.int .i64 0)]], [], places) :=
  ⟨[], by kernel_rfl⟩

set_option maxRecDepth 100000 in
theorem lifted (os : Os) (started : os.Started) (H : Type) (enc : TypeId × Value → H) (F : Stop.Interp) :
    ReturnsInHanded {} Tryd.checked os 9 .any ((OpenSpec.ofChange Rows.placeOrdersSpec).preRow enc Tryd.prog Tryd.f9 Rows.placeOrdersRow.domain false Rows.placeOrdersRow.laid) (((OpenSpec.ofChange Rows.placeOrdersSpec).at F).post enc Tryd.prog Tryd.f9 false true false false) := by
  obtain ⟨places, hx⟩ := reads os enc
  refine returnsInHanded_of_row (C := Tryd.checked) (s := OpenSpec.ofChange Rows.placeOrdersSpec) own started (by kernel_rfl) Tryd.func9
    (witness_row_atRef (enc := enc) (C := Tryd.checked) false (laidWorld os) #[.agg #[.int .i64 0, .int .i64 0], .agg #[.int .i64 0, .int .i64 0], .agg #[.int .i64 0, .int .i64 0]] rfl (by kernel_rfl) (by kernel_rfl) (by kernel_rfl)
      (OpenSpec.preRow_of_cond 8 hx (by kernel_rfl) (fun k hk => by cases hk) (by kernel_rfl) (laid_met os))) ?_
  intro W base args ds gs before hval hW _ _ _ hL _ _
  exact contract H enc W base args ds gs before hval hW (glob_of_laid hL)

theorem said : Rows.PlaceOrdersSaid :=
  OpenClaim.holds_of_cond 9 Tryd.f9 rfl rfl rfl rfl rfl rfl rfl ⟨rfl, rfl, rfl, rfl, rfl⟩ rfl rfl rfl rfl rfl (by kernel_rfl) Tryd.func9 (by kernel_rfl)
    (of_decide_eq_true (by kernel_rfl)) (by unfold Func.isWrapper; first | (rw [if_pos (by decide +kernel)]; kernel_rfl) | (rw [if_neg (by decide +kernel)]; exact ⟨rfl, rfl⟩))
    (fun os started H enc _ F => by rw [OpenClaim.pre_eq_preRow]; exact lifted os started H enc F)

/-- THE CARD. -/
theorem card : Rows.PlaceOrdersCardSaid :=
  Claim7.holds_tied_plain_at .later [] _ _ _ _ said (fun _ h => by cases h) (by kernel_rfl) (fun _ h => by cases h) placeOrders_row_tie rfl ⟨rfl, rfl⟩ (by kernel_rfl) rfl
    (fun f fn hf hfn => plainOf (by kernel_rfl) Tryd.func9 (by kernel_rfl) (by kernel_rfl) f fn hf hfn) (by kernel_rfl)
end Go.Proofs.YthjpcfohpbbacaaDoor.orders
