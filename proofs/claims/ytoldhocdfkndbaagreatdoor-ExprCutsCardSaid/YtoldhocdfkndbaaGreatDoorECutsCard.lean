/-
  ExprCuts: the law returns true for every argument; its arguments read afterwards as before. Condition: the listed variables hold what their initialisers lay (the card ties that to the program's text).
-/
import Derived.Test.YtoldhocdfkndbaaGreatDoorECuts
import Derived.Test.YtoldhocdfkndbaaGreatDoorEWorks
import Derived.Test.YtoldhocdfkndbaaGreatDoorEFrame
namespace Go.Proofs.YtoldhocdfkndbaaGreatDoor.E5.cuts
open Go Go.ChangeShapes Go.WideShapes Go.ChangeAt Go.RowKit Go.Joins Go.Proofs.YtoldhocdfkndbaaGreatDoor Go.Proofs.YtoldhocdfkndbaaGreatDoor.E5
open Go.ChangeMaps (open_string shut_string)

set_option maxRecDepth 100000 in
theorem contract (H : Type) (enc : TypeId × Value → H) (W : World) (base : Nat) (args : Array Value) (ds gs : List (DataW H)) (before : List MemPlace)
    (hval : ∀ (j : Nat) t v, Tryz.f6.params[j]? = some t → args[j]? = some v → Value.okWide Tryz.prog W .any base t v)
    (hW : DataW.Whole enc Tryz.prog Tryz.f6.params.toList Rows.exprCutsSpec.vars false W args.toList ds gs before) (hG : GlobA W) :
    Calls Tryz.prog 6 args W fun e W' => ∃ v, e = .returned v ∧ Rows.exprCutsSpec.post enc Tryz.prog Tryz.f6 false true false false W args v W' := by
  have hW' := hW
  obtain ⟨p, q, hA0, hV, rfl, hfz, hnd⟩ := hW
  have hA : DataW.TrodAll enc Tryz.prog W 0 (fun _ => true) true Tryz.f6.params.toList args.toList ds p := hA0
  rw [Tryz.params6] at hA hval
  obtain ⟨v0, vs0, d0, ds0, p0, q0, hargs, rfl, rfl, h0, r0⟩ := trodAll_cons hA
  obtain ⟨v1, vs1, d1, ds1, p1, q1, rfl, rfl, rfl, h1, r1⟩ := trodAll_cons r0
  obtain ⟨rfl, rfl, rfl⟩ := trodAll_nil r1
  obtain rfl : args = #[v0, v1] := by cases args; simp_all
  obtain ⟨rfl, rfl⟩ := trodVars_none hV
  clear hA0
  simp only [List.append_nil] at hW'
  have t0 : ∀ W', Below W.heap.size W W' → DataW.Trod enc Tryz.prog W' 0 (fun b => decide (b < W.heap.size)) true 28 v0 d0 p0 := fun W' hb => Below.trod pfLaid (by kernel_rfl) (of_decide_eq_true (by kernel_rfl)) h0 hb (fun x hx => by have := hW'.lt x (by simp [hx]); simpa using this)
  have t1 : ∀ W', Below W.heap.size W W' → DataW.Trod enc Tryz.prog W' 0 (fun b => decide (b < W.heap.size)) true 51 v1 d1 p1 := fun W' hb => Below.trod pfLaid (by kernel_rfl) (of_decide_eq_true (by kernel_rfl)) h1 hb (fun x hx => by have := hW'.lt x (by simp [hx]); simpa using this)
  obtain ⟨a0, len0, cap0, rfl⟩ := okWide_slice Tryz.underlying28 (hval 0 28 v0 rfl rfl)
  obtain ⟨fu0, hf0⟩ := h0
  obtain ⟨l0, v0, hv0, L0⟩ := open_bytes Tryz.underlying28 hf0
  obtain rfl : v0 = .slice a0 len0 cap0 := (List.cons.inj hv0).1.symm
  obtain ⟨x1, rfl, _, _, w1⟩ := open_int Tryz.underlying51 (hval 1 51 v1 rfl rfl) h1
  have m1 : 0 ≤ x1 ∧ x1 ≤ 65535 := by simpa [Lit.wf, IntKind.min, IntKind.max, IntKind.signed, IntKind.bits] using w1
  obtain ⟨n1, rfl⟩ := Int.eq_ofNat_of_zero_le m1.1
  refine (cuts_law ops.worksR l0 _ n1 (by have := m1.2; omega) W L0 hG).mono fun e W' ⟨he, hb⟩ => ?_
  subst he
  exact ⟨_, rfl, post_kept (pv := []) hW' (fun _ _ _ => trodAll_cons_mk (shut_bool Tryz.underlying4 _) trodAll_mk0)
    (trodAll_cons_mk (t0 W' hb) (trodAll_cons_mk (t1 W' hb) trodAll_mk0)) rfl (by simp) hb⟩

theorem laid_met (os : Os) : laidMet Tryz.prog Rows.exprCutsRow.laid ((laidWorld os).forCall (fun _ _ => 0) ⟨#[], #[.slice none 0 0, .int .u16 0], []⟩).memory :=
  laidMet_of_run3 8 (by kernel_rfl) (by kernel_rfl) (by kernel_rfl)
theorem reads (os : Os) {H : Type} (enc : TypeId × Value → H) : ∃ places, DataW.whole enc Tryz.prog ((laidWorld os).forCall (fun _ _ => 0) ⟨#[], #[.slice none 0 0, .int .u16 0], []⟩).memory Tryz.f6.params.toList Rows.exprCutsSpec.vars false #[.slice none 0 0, .int .u16 0].toList 8 = some ([.nil, .lit (.int .u16 0)], [], places) :=
  ⟨[], by kernel_rfl⟩

set_option maxRecDepth 100000 in
theorem lifted (os : Os) (started : os.Started) (H : Type) (enc : TypeId × Value → H) (F : Stop.Interp) :
    ReturnsInHanded {} Tryz.checked os 6 .any ((OpenSpec.ofChange Rows.exprCutsSpec).preRow enc Tryz.prog Tryz.f6 Rows.exprCutsRow.domain false Rows.exprCutsRow.laid) (((OpenSpec.ofChange Rows.exprCutsSpec).at F).post enc Tryz.prog Tryz.f6 false true false false) := by
  obtain ⟨places, hx⟩ := reads os enc
  refine returnsInHanded_of_row (C := Tryz.checked) (s := OpenSpec.ofChange Rows.exprCutsSpec) own started (by kernel_rfl) Tryz.func6
    (witness_row_atRef (enc := enc) (C := Tryz.checked) false (laidWorld os) #[.slice none 0 0, .int .u16 0] rfl (by kernel_rfl) (by kernel_rfl) (by kernel_rfl)
      (OpenSpec.preRow_of_cond 8 hx (by kernel_rfl) (fun k hk => by cases hk) (by kernel_rfl) (laid_met os))) ?_
  intro W base args ds gs before hval hW _ _ _ hL hsh _
  exact contract H enc W base args ds gs before hval hW (glob_of_laid hL (size_of_shape hsh))

theorem cf_w : (Rows.exprCutsRow.wf (OpenSpec.ofChange Rows.exprCutsSpec)) = true := by kernel_rfl
theorem cf_a : (Tryz.f6.params.all (Tryz.prog.readableRec ·)) = true := by kernel_rfl
theorem cf_n : (namedTie Tryz.prog Rows.exprCutsRow.named Rows.exprCutsSpec.vars) = true := by kernel_rfl
theorem cf_s : ((Rows.exprCutsRow.stops == [])) = true := by kernel_rfl
theorem cf_k : ((Rows.exprCutsRow.knobs == [])) = true := by kernel_rfl
theorem cf_ip : ((Rows.exprCutsRow.inPlace == Tryz.prog.inPlace 6)) = true := by kernel_rfl
theorem cf_uf : ((Rows.exprCutsRow.unfollowed == Tryz.prog.unfollowed 6)) = true := by kernel_rfl
theorem cf_rc : ((Rows.exprCutsRow.recurses == Tryz.prog.recurses 6)) = true := by kernel_rfl
theorem cf_vn : ((Rows.exprCutsRow.named == Tryz.prog.varsNamed 6)) = true := by kernel_rfl
theorem cf_m : ((Rows.exprCutsRow.maps == (Tryz.f6.params.toList ++ Rows.exprCutsSpec.plain.varTypes Tryz.prog).any (Tryz.prog.mapsRec ·))) = true := by kernel_rfl
theorem cf_i : ((Rows.exprCutsRow.ifaces == (Tryz.f6.params.toList ++ Rows.exprCutsSpec.plain.varTypes Tryz.prog).any (Tryz.prog.ifacesRec ·))) = true := by kernel_rfl
theorem cf_mo : ((Rows.exprCutsRow.mapsOut == Tryz.prog.mapsAmong Tryz.f6.resultTypes.toList)) = true := by kernel_rfl
theorem cf_l : ((Rows.exprCutsRow.loops == (Tryz.f6.params.toList ++ Rows.exprCutsSpec.plain.varTypes Tryz.prog).any (Tryz.prog.loopsFrom ·))) = true := by kernel_rfl
theorem cf_wk : ((Rows.exprCutsRow.wideKeys == (Tryz.f6.params.toList ++ Rows.exprCutsSpec.plain.varTypes Tryz.prog ++ Tryz.f6.resultTypes.toList).any (Tryz.prog.wideKeysFrom ·))) = true := by kernel_rfl
theorem cf_v : (Rows.exprCutsSpec.vars.all (Tryz.prog.varReadable ·)) = true := by kernel_rfl
theorem cf_rt : (Tryz.f6.resultTypes.all (fun t => Tryz.prog.readableRec t && decide (t < Tryz.prog.types.size))) = true := by kernel_rfl
theorem cf_io : ((Rows.exprCutsRow.ifacesOut == Tryz.f6.resultTypes.toList.any (Tryz.prog.ifacesRec ·))) = true := by kernel_rfl
theorem cf_lo : ((Rows.exprCutsRow.loopsOut == Tryz.f6.resultTypes.toList.any (Tryz.prog.loopsFrom ·))) = true := by kernel_rfl
theorem cf_pk : ((Rows.exprCutsRow.plainKeys == Tryz.prog.plainKeys)) = true := by kernel_rfl
theorem cf_st : (Rows.exprCutsRow.shortTexts.isNone) = true := by kernel_rfl
theorem cf_lf : ((Rows.exprCutsRow.lifted == Tryz.prog.liftsFinal)) = true := by kernel_rfl
theorem cf_mk : ((Tryz.prog.make == some Rows.exprCutsRow.make)) = true := by kernel_rfl
theorem cf_kd : ((Rows.exprCutsRow.kinds == (if Rows.exprCutsRow.domain.isEmpty then [] else Tryz.f6.params.toList.map fun t => match Tryz.prog.underlying t with | some (.int k) => some k | _ => none))) = true := by kernel_rfl
theorem cf_pn : ((Rows.exprCutsRow.pinned == Rows.exprCutsRow.pinnedBy)) = true := by kernel_rfl
theorem cf_ve : ((Rows.exprCutsRow.veiled == (Tryz.f6.params.toList ++ Rows.exprCutsSpec.plain.varTypes Tryz.prog ++ Tryz.f6.resultTypes.toList).any (Tryz.prog.veiledRec ·))) = true := by kernel_rfl
theorem cf_vf : (Rows.exprCutsRow.veiledFits Tryz.prog Tryz.f6.params.toList (Tryz.f6.params.toList ++ Rows.exprCutsSpec.plain.varTypes Tryz.prog ++ Tryz.f6.resultTypes.toList)) = true := by kernel_rfl
set_option maxRecDepth 100000 in
theorem cf_all : joinedFacts Tryz.prog 6 Tryz.f6 Rows.exprCutsSpec Rows.exprCutsRow = true := by
  unfold joinedFacts
  exact (amt (amt (amt (amt (amt (amt (amt (amt (amt (amt (amt (amt (amt (amt (amt (amt (amt (amt (amt (amt (amt (amt (amt (amt (amt (amt (amt (amt (amt (amt (amt cf_w pfLaid) pfMaps) cf_a) cf_n) cf_s) pfStops) cf_k) pfKnobs) cf_ip) cf_uf) cf_rc) cf_vn) cf_m) cf_i) cf_mo) cf_l) cf_wk) cf_v) cf_rt) cf_io) cf_lo) cf_pk) cf_st) pfHeard) pfEnter) cf_lf) cf_mk) cf_kd) cf_pn) cf_ve) cf_vf)
theorem cf_fn : Tryz.pinned.checked.prog.funcNamed Rows.exprCutsRow.func = some 6 := by kernel_rfl
theorem cf_inst : Tryz.f6.isInstance Tryz.pinned.checked.prog Rows.exprCutsRow.origin Rows.exprCutsRow.targs := of_decide_eq_true (by kernel_rfl)
set_option maxRecDepth 100000 in
theorem cf_wrap : Tryz.f6.isWrapper Tryz.pinned.checked.prog Rows.exprCutsRow.wrapper Rows.exprCutsRow.mainSum := by unfold Func.isWrapper; first | (rw [if_pos (by decide +kernel)]; kernel_rfl) | (rw [if_neg (by decide +kernel)]; exact ⟨rfl, rfl⟩)
set_option maxRecDepth 100000 in
theorem cf_joined : joinedFacts Tryz.pinned.checked.prog 6 Tryz.f6 (OpenSpec.ofChange Rows.exprCutsSpec).bare Rows.exprCutsRow = true := cf_all

theorem said : Rows.ExprCutsSaid :=
  OpenClaim.holds_of_cond 6 Tryz.f6 rfl rfl rfl rfl rfl rfl rfl ⟨rfl, rfl, rfl, rfl, rfl⟩ rfl rfl rfl rfl rfl cf_fn Tryz.func6 cf_joined cf_inst cf_wrap
    (fun os started H enc _ F => by rw [OpenClaim.pre_eq_preRow]; exact lifted os started H enc F)

theorem cf_text : Rows.exprCutsRow.wfByText (OpenSpec.ofChange Rows.exprCutsSpec) = true := by kernel_rfl
theorem cf_par : (Tryz.f6.params.all fun u => !Tryz.prog.wantsStandIn u) = true := by kernel_rfl
theorem cf_named : Tryz.prog.funcNamed Rows.exprCutsRow.func = some 6 := by kernel_rfl
theorem cf_goes : false = Rows.exprCutsRow.goesBy Tryz.pinned.checked.prog := by kernel_rfl

/-- THE CARD. -/
theorem card : Rows.ExprCutsCardSaid :=
  Claim7.holds_tied_plain_at .later [] _ _ _ _ said (fun _ h => by cases h) cf_text (fun _ h => by cases h) exprCuts_row_tie rfl ⟨rfl, rfl⟩ pfMain rfl
    (fun f fn hf hfn => plainOf cf_named Tryz.func6 pfLooks cf_par f fn hf hfn) cf_goes
end Go.Proofs.YtoldhocdfkndbaaGreatDoor.E5.cuts
