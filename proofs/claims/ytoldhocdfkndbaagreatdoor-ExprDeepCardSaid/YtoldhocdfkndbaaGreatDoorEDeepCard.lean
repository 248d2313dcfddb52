/-
  ExprDeep: the law returns true.
  ExprDeep: the law returns true for every argument; its arguments read afterwards as before. Condition: the listed variables hold what their initialisers lay (the card ties that to the program's text).
-/
import Derived.Test.YtoldhocdfkndbaaGreatDoorEDeep
import Derived.Test.YtoldhocdfkndbaaGreatDoorEWorks
import Derived.Test.YtoldhocdfkndbaaGreatDoorEFrame
namespace Go.Proofs.YtoldhocdfkndbaaGreatDoor.E5.deep
open Go Go.RowKit Go.Proofs.YtoldhocdfkndbaaGreatDoor Go.Proofs.YtoldhocdfkndbaaGreatDoor.E5

theorem law (x0 x1 : Int) (h0 : 0 ≤ x0) (h0' : x0 ≤ 255) (h1 : 0 ≤ x1) (h1' : x1 ≤ 255) (w : World) (hG : GlobA w) :
    Calls Tryz.prog 7 #[.int .u8 x0, .int .u8 x1] w fun e w' => e = .returned (.bool true) ∧ Below w.heap.size w w' := deep_law ops.worksR x0 x1 ⟨h0, h0'⟩ ⟨h1, h1'⟩ w hG
end Go.Proofs.YtoldhocdfkndbaaGreatDoor.E5.deep

namespace Go.Proofs.YtoldhocdfkndbaaGreatDoor.E5.deep
open Go Go.ChangeShapes Go.WideShapes Go.ChangeAt Go.RowKit Go.Joins Go.Proofs.YtoldhocdfkndbaaGreatDoor Go.Proofs.YtoldhocdfkndbaaGreatDoor.E5
open Go.ChangeMaps (open_string shut_string)

set_option maxRecDepth 100000 in
theorem contract (H : Type) (enc : TypeId × Value → H) (W : World) (base : Nat) (args : Array Value) (ds gs : List (DataW H)) (before : List MemPlace)
    (hval : ∀ (j : Nat) t v, Tryz.f7.params[j]? = some t → args[j]? = some v → Value.okWide Tryz.prog W .any base t v)
    (hW : DataW.Whole enc Tryz.prog Tryz.f7.params.toList Rows.exprDeepSpec.vars false W args.toList ds gs before) (hG : GlobA W) :
    Calls Tryz.prog 7 args W fun e W' => ∃ v, e = .returned v ∧ Rows.exprDeepSpec.post enc Tryz.prog Tryz.f7 false true false false W args v W' := by
  have hW' := hW
  obtain ⟨p, q, hA0, hV, rfl, hfz, hnd⟩ := hW
  have hA : DataW.TrodAll enc Tryz.prog W 0 (fun _ => true) true Tryz.f7.params.toList args.toList ds p := hA0
  rw [Tryz.params7] at hA hval
  obtain ⟨v0, vs0, d0, ds0, p0, q0, hargs, rfl, rfl, h0, r0⟩ := trodAll_cons hA
  obtain ⟨v1, vs1, d1, ds1, p1, q1, rfl, rfl, rfl, h1, r1⟩ := trodAll_cons r0
  obtain ⟨rfl, rfl, rfl⟩ := trodAll_nil r1
  obtain rfl : args = #[v0, v1] := by cases args; simp_all
  obtain ⟨rfl, rfl⟩ := trodVars_none hV
  clear hA0
  simp only [List.append_nil] at hW'
  have t0 : ∀ W', Below W.heap.size W W' → DataW.Trod enc Tryz.prog W' 0 (fun b => decide (b < W.heap.size)) true 5 v0 d0 p0 := fun W' hb => Below.trod pfLaid (by kernel_rfl) (of_decide_eq_true (by kernel_rfl)) h0 hb (fun x hx => by have := hW'.lt x (by simp [hx]); simpa using this)
  have t1 : ∀ W', Below W.heap.size W W' → DataW.Trod enc Tryz.prog W' 0 (fun b => decide (b < W.heap.size)) true 5 v1 d1 p1 := fun W' hb => Below.trod pfLaid (by kernel_rfl) (of_decide_eq_true (by kernel_rfl)) h1 hb (fun x hx => by have := hW'.lt x (by simp [hx]); simpa using this)
  obtain ⟨x0, rfl, _, _, w0⟩ := open_int Tryz.underlying5 (hval 0 5 v0 rfl rfl) h0
  have m0 : 0 ≤ x0 ∧ x0 ≤ 255 := by simpa [Lit.wf, IntKind.min, IntKind.max, IntKind.signed, IntKind.bits] using w0
  obtain ⟨n0, rfl⟩ := Int.eq_ofNat_of_zero_le m0.1
  obtain ⟨x1, rfl, _, _, w1⟩ := open_int Tryz.underlying5 (hval 1 5 v1 rfl rfl) h1
  have m1 : 0 ≤ x1 ∧ x1 ≤ 255 := by simpa [Lit.wf, IntKind.min, IntKind.max, IntKind.signed, IntKind.bits] using w1
  obtain ⟨n1, rfl⟩ := Int.eq_ofNat_of_zero_le m1.1
  refine (law (n0 : Int) (n1 : Int) m0.1 m0.2 m1.1 m1.2 W hG).mono fun e W' ⟨he, hb⟩ => ?_
  subst he
  exact ⟨_, rfl, post_kept (pv := []) hW' (fun _ _ _ => trodAll_cons_mk (shut_bool Tryz.underlying4 _) trodAll_mk0)
    (trodAll_cons_mk (t0 W' hb) (trodAll_cons_mk (t1 W' hb) trodAll_mk0)) rfl (by simp) hb⟩

theorem laid_met (os : Os) : laidMet Tryz.prog Rows.exprDeepRow.laid ((laidWorld os).forCall (fun _ _ => 0) ⟨#[], #[.int .u8 0, .int .u8 0], []⟩).memory :=
  laidMet_of_run3 8 (by kernel_rfl) (by kernel_rfl) (by kernel_rfl)
theorem reads (os : Os) {H : Type} (enc : TypeId × Value → H) : ∃ places, DataW.whole enc Tryz.prog ((laidWorld os).forCall (fun _ _ => 0) ⟨#[], #[.int .u8 0, .int .u8 0], []⟩).memory Tryz.f7.params.toList Rows.exprDeepSpec.vars false #[.int .u8 0, .int .u8 0].toList 8 = some ([.lit (.int .u8 0), .lit (.int .u8 0)], [], places) :=
  ⟨[], by kernel_rfl⟩

set_option maxRecDepth 100000 in
theorem lifted (os : Os) (started : os.Started) (H : Type) (enc : TypeId × Value → H) (F : Stop.Interp) :
    ReturnsInHanded {} Tryz.checked os 7 .any ((OpenSpec.ofChange Rows.exprDeepSpec).preRow enc Tryz.prog Tryz.f7 Rows.exprDeepRow.domain false Rows.exprDeepRow.laid) (((OpenSpec.ofChange Rows.exprDeepSpec).at F).post enc Tryz.prog Tryz.f7 false true false false) := by
  obtain ⟨places, hx⟩ := reads os enc
  refine returnsInHanded_of_row (C := Tryz.checked) (s := OpenSpec.ofChange Rows.exprDeepSpec) own started (by kernel_rfl) Tryz.func7
    (witness_row_atRef (enc := enc) (C := Tryz.checked) false (laidWorld os) #[.int .u8 0, .int .u8 0] rfl (by kernel_rfl) (by kernel_rfl) (by kernel_rfl)
      (OpenSpec.preRow_of_cond 8 hx (by kernel_rfl) (fun k hk => by cases hk) (by kernel_rfl) (laid_met os))) ?_
  intro W base args ds gs before hval hW _ _ _ hL hsh _
  exact contract H enc W base args ds gs before hval hW (glob_of_laid hL (size_of_shape hsh))

theorem cf_w : (Rows.exprDeepRow.wf (OpenSpec.ofChange Rows.exprDeepSpec)) = true := by kernel_rfl
theorem cf_a : (Tryz.f7.params.all (Tryz.prog.readableRec ·)) = true := by kernel_rfl
theorem cf_n : (namedTie Tryz.prog Rows.exprDeepRow.named Rows.exprDeepSpec.vars) = true := by kernel_rfl
theorem cf_s : ((Rows.exprDeepRow.stops == [])) = true := by kernel_rfl
theorem cf_k : ((Rows.exprDeepRow.knobs == [])) = true := by kernel_rfl
theorem cf_ip : ((Rows.exprDeepRow.inPlace == Tryz.prog.inPlace 7)) = true := by kernel_rfl
theorem cf_uf : ((Rows.exprDeepRow.unfollowed == Tryz.prog.unfollowed 7)) = true := by kernel_rfl
theorem cf_rc : ((Rows.exprDeepRow.recurses == Tryz.prog.recurses 7)) = true := by kernel_rfl
theorem cf_vn : ((Rows.exprDeepRow.named == Tryz.prog.varsNamed 7)) = true := by kernel_rfl
theorem cf_m : ((Rows.exprDeepRow.maps == (Tryz.f7.params.toList ++ Rows.exprDeepSpec.plain.varTypes Tryz.prog).any (Tryz.prog.mapsRec ·))) = true := by kernel_rfl
theorem cf_i : ((Rows.exprDeepRow.ifaces == (Tryz.f7.params.toList ++ Rows.exprDeepSpec.plain.varTypes Tryz.prog).any (Tryz.prog.ifacesRec ·))) = true := by kernel_rfl
theorem cf_mo : ((Rows.exprDeepRow.mapsOut == Tryz.prog.mapsAmong Tryz.f7.resultTypes.toList)) = true := by kernel_rfl
theorem cf_l : ((Rows.exprDeepRow.loops == (Tryz.f7.params.toList ++ Rows.exprDeepSpec.plain.varTypes Tryz.prog).any (Tryz.prog.loopsFrom ·))) = true := by kernel_rfl
theorem cf_wk : ((Rows.exprDeepRow.wideKeys == (Tryz.f7.params.toList ++ Rows.exprDeepSpec.plain.varTypes Tryz.prog ++ Tryz.f7.resultTypes.toList).any (Tryz.prog.wideKeysFrom ·))) = true := by kernel_rfl
theorem cf_v : (Rows.exprDeepSpec.vars.all (Tryz.prog.varReadable ·)) = true := by kernel_rfl
theorem cf_rt : (Tryz.f7.resultTypes.all (fun t => Tryz.prog.readableRec t && decide (t < Tryz.prog.types.size))) = true := by kernel_rfl
theorem cf_io : ((Rows.exprDeepRow.ifacesOut == Tryz.f7.resultTypes.toList.any (Tryz.prog.ifacesRec ·))) = true := by kernel_rfl
theorem cf_lo : ((Rows.exprDeepRow.loopsOut == Tryz.f7.resultTypes.toList.any (Tryz.prog.loopsFrom ·))) = true := by kernel_rfl
theorem cf_pk : ((Rows.exprDeepRow.plainKeys == Tryz.prog.plainKeys)) = true := by kernel_rfl
theorem cf_st : (Rows.exprDeepRow.shortTexts.isNone) = true := by kernel_rfl
theorem cf_lf : ((Rows.exprDeepRow.lifted == Tryz.prog.liftsFinal)) = true := by kernel_rfl
theorem cf_mk : ((Tryz.prog.make == some Rows.exprDeepRow.make)) = true := by kernel_rfl
theorem cf_kd : ((Rows.exprDeepRow.kinds == (if Rows.exprDeepRow.domain.isEmpty then [] else Tryz.f7.params.toList.map fun t => match Tryz.prog.underlying t with | some (.int k) => some k | _ => none))) = true := by kernel_rfl
theorem cf_pn : ((Rows.exprDeepRow.pinned == Rows.exprDeepRow.pinnedBy)) = true := by kernel_rfl
theorem cf_ve : ((Rows.exprDeepRow.veiled == (Tryz.f7.params.toList ++ Rows.exprDeepSpec.plain.varTypes Tryz.prog ++ Tryz.f7.resultTypes.toList).any (Tryz.prog.veiledRec ·))) = true := by kernel_rfl
theorem cf_vf : (Rows.exprDeepRow.veiledFits Tryz.prog Tryz.f7.params.toList (Tryz.f7.params.toList ++ Rows.exprDeepSpec.plain.varTypes Tryz.prog ++ Tryz.f7.resultTypes.toList)) = true := by kernel_rfl
set_option maxRecDepth 100000 in
theorem cf_all : joinedFacts Tryz.prog 7 Tryz.f7 Rows.exprDeepSpec Rows.exprDeepRow = true := by
  unfold joinedFacts
  exact (amt (amt (amt (amt (amt (amt (amt (amt (amt (amt (amt (amt (amt (amt (amt (amt (amt (amt (amt (amt (amt (amt (amt (amt (amt (amt (amt (amt (amt (amt (amt cf_w pfLaid) pfMaps) cf_a) cf_n) cf_s) pfStops) cf_k) pfKnobs) cf_ip) cf_uf) cf_rc) cf_vn) cf_m) cf_i) cf_mo) cf_l) cf_wk) cf_v) cf_rt) cf_io) cf_lo) cf_pk) cf_st) pfHeard) pfEnter) cf_lf) cf_mk) cf_kd) cf_pn) cf_ve) cf_vf)
theorem cf_fn : Tryz.pinned.checked.prog.funcNamed Rows.exprDeepRow.func = some 7 := by kernel_rfl
theorem cf_inst : Tryz.f7.isInstance Tryz.pinned.checked.prog Rows.exprDeepRow.origin Rows.exprDeepRow.targs := of_decide_eq_true (by kernel_rfl)
set_option maxRecDepth 100000 in
theorem cf_wrap : Tryz.f7.isWrapper Tryz.pinned.checked.prog Rows.exprDeepRow.wrapper Rows.exprDeepRow.mainSum := by unfold Func.isWrapper; first | (rw [if_pos (by decide +kernel)]; kernel_rfl) | (rw [if_neg (by decide +kernel)]; exact ⟨rfl, rfl⟩)
set_option maxRecDepth 100000 in
theorem cf_joined : joinedFacts Tryz.pinned.checked.prog 7 Tryz.f7 (OpenSpec.ofChange Rows.exprDeepSpec).bare Rows.exprDeepRow = true := cf_all

theorem said : Rows.ExprDeepSaid :=
  OpenClaim.holds_of_cond 7 Tryz.f7 rfl rfl rfl rfl rfl rfl rfl ⟨rfl, rfl, rfl, rfl, rfl⟩ rfl rfl rfl rfl rfl cf_fn Tryz.func7 cf_joined cf_inst cf_wrap
    (fun os started H enc _ F => by rw [OpenClaim.pre_eq_preRow]; exact lifted os started H enc F)

theorem cf_text : Rows.exprDeepRow.wfByText (OpenSpec.ofChange Rows.exprDeepSpec) = true := by kernel_rfl
theorem cf_par : (Tryz.f7.params.all fun u => !Tryz.prog.wantsStandIn u) = true := by kernel_rfl
theorem cf_named : Tryz.prog.funcNamed Rows.exprDeepRow.func = some 7 := by kernel_rfl
theorem cf_goes : false = Rows.exprDeepRow.goesBy Tryz.pinned.checked.prog := by kernel_rfl

/-- THE CARD. -/
theorem card : Rows.ExprDeepCardSaid :=
  Claim7.holds_tied_plain_at .later [] _ _ _ _ said (fun _ h => by cases h) cf_text (fun _ h => by cases h) exprDeep_row_tie rfl ⟨rfl, rfl⟩ pfMain rfl
    (fun f fn hf hfn => plainOf cf_named Tryz.func7 pfLooks cf_par f fn hf hfn) cf_goes
end Go.Proofs.YtoldhocdfkndbaaGreatDoor.E5.deep
