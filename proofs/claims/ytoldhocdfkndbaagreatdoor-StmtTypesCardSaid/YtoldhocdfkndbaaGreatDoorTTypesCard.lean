/-
  StmtTypes: the law returns true for every argument; its arguments read afterwards as before. Condition: the listed variables hold what their initialisers lay (the card ties that to the program's text).
-/
import Derived.Test.YtoldhocdfkndbaaGreatDoorTWorks
import Derived.Test.YtoldhocdfkndbaaGreatDoorTLwsT
import Derived.Test.YtoldhocdfkndbaaGreatDoorTFrame
import Derived.Test.YtoldhocdfkndbaaGreatDoorEFrame
namespace Go.Proofs.YtoldhocdfkndbaaGreatDoor.E6.types
open Go Go.ChangeShapes Go.WideShapes Go.ChangeAt Go.RowKit Go.Joins Go.Proofs.YtoldhocdfkndbaaGreatDoor Go.Proofs.YtoldhocdfkndbaaGreatDoor.E5 Go.Proofs.YtoldhocdfkndbaaGreatDoor.E6
open Go.ChangeMaps (open_string shut_string)

set_option maxRecDepth 100000 in
theorem contract (H : Type) (enc : TypeId × Value → H) (W : World) (base : Nat) (args : Array Value) (ds gs : List (DataW H)) (before : List MemPlace)
    (hval : ∀ (j : Nat) t v, Tryz.f13.params[j]? = some t → args[j]? = some v → Value.okWide Tryz.prog W .any base t v)
    (hW : DataW.Whole enc Tryz.prog Tryz.f13.params.toList Rows.stmtTypesSpec.vars false W args.toList ds gs before) (hG : Glob6 W) :
    Calls Tryz.prog 13 args W fun e W' => ∃ v, e = .returned v ∧ Rows.stmtTypesSpec.post enc Tryz.prog Tryz.f13 false true false false W args v W' := by
  have hW' := hW
  obtain ⟨p, q, hA0, hV, rfl, hfz, hnd⟩ := hW
  have hA : DataW.TrodAll enc Tryz.prog W 0 (fun _ => true) true Tryz.f13.params.toList args.toList ds p := hA0
  rw [Tryz.params13] at hA hval
  obtain ⟨v0, vs0, d0, ds0, p0, q0, hargs, rfl, rfl, h0, r0⟩ := trodAll_cons hA
  obtain ⟨v1, vs1, d1, ds1, p1, q1, rfl, rfl, rfl, h1, r1⟩ := trodAll_cons r0
  obtain ⟨rfl, rfl, rfl⟩ := trodAll_nil r1
  obtain rfl : args = #[v0, v1] := by cases args; simp_all
  obtain ⟨rfl, rfl⟩ := trodVars_none hV
  clear hA0
  simp only [List.append_nil] at hW'
  have t0 : ∀ W', Below W.heap.size W W' → DataW.Trod enc Tryz.prog W' 0 (fun b => decide (b < W.heap.size)) true 9 v0 d0 p0 := fun W' hb => Below.trod pfLaid (by kernel_rfl) (of_decide_eq_true (by kernel_rfl)) h0 hb (fun x hx => by have := hW'.lt x (by simp [hx]); simpa using this)
  have t1 : ∀ W', Below W.heap.size W W' → DataW.Trod enc Tryz.prog W' 0 (fun b => decide (b < W.heap.size)) true 3 v1 d1 p1 := fun W' hb => Below.trod pfLaid (by kernel_rfl) (of_decide_eq_true (by kernel_rfl)) h1 hb (fun x hx => by have := hW'.lt x (by simp [hx]); simpa using this)
  obtain ⟨x0, rfl, _, _, w0⟩ := open_string Tryz.underlying9 (hval 0 9 v0 rfl rfl) h0
  obtain ⟨s0, rfl, m0⟩ : ∃ s : Bytes, x0 = B s ∧ s.length ≤ 9223372036854775807 := ⟨x0.data.toList, rfl, str_len w0⟩
  obtain ⟨x1, rfl, _, _, w1⟩ := open_int Tryz.underlying3 (hval 1 3 v1 rfl rfl) h1
  have m1 : -9223372036854775808 ≤ x1 ∧ x1 ≤ 9223372036854775807 := by simpa [Lit.wf, IntKind.min, IntKind.max, IntKind.signed, IntKind.bits] using w1
  refine (types_law works6 (B s0) x1 W hG).mono fun e W' ⟨he, hb⟩ => ?_
  subst he
  exact ⟨_, rfl, post_kept (pv := []) hW' (fun _ _ _ => trodAll_cons_mk (shut_bool Tryz.underlying4 _) trodAll_mk0)
    (trodAll_cons_mk (t0 W' hb) (trodAll_cons_mk (t1 W' hb) trodAll_mk0)) rfl (by simp) hb⟩

theorem laid_met (os : Os) : laidMet Tryz.prog Rows.stmtTypesRow.laid ((laidWorld6 os).forCall (fun _ _ => 0) ⟨#[], #[.string ⟨#[]⟩, .int .i64 0], []⟩).memory :=
  laidMet_of_run3 8 (by kernel_rfl) (by kernel_rfl) (by kernel_rfl)
theorem reads (os : Os) {H : Type} (enc : TypeId × Value → H) : ∃ places, DataW.whole enc Tryz.prog ((laidWorld6 os).forCall (fun _ _ => 0) ⟨#[], #[.string ⟨#[]⟩, .int .i64 0], []⟩).memory Tryz.f13.params.toList Rows.stmtTypesSpec.vars false #[.string ⟨#[]⟩, .int .i64 0].toList 8 = some ([.lit (.string []), .lit (.int .i64 0)], [], places) :=
  ⟨[], by kernel_rfl⟩

set_option maxRecDepth 100000 in
theorem lifted (os : Os) (started : os.Started) (H : Type) (enc : TypeId × Value → H) (F : Stop.Interp) :
    ReturnsInHanded {} Tryz.checked os 13 .any ((OpenSpec.ofChange Rows.stmtTypesSpec).preRow enc Tryz.prog Tryz.f13 Rows.stmtTypesRow.domain false Rows.stmtTypesRow.laid) (((OpenSpec.ofChange Rows.stmtTypesSpec).at F).post enc Tryz.prog Tryz.f13 false true false false) := by
  obtain ⟨places, hx⟩ := reads os enc
  refine returnsInHanded_of_row (C := Tryz.checked) (s := OpenSpec.ofChange Rows.stmtTypesSpec) own started (by kernel_rfl) Tryz.func13
    (witness_row_atRef (enc := enc) (C := Tryz.checked) false (laidWorld6 os) #[.string ⟨#[]⟩, .int .i64 0] rfl (by kernel_rfl) (by kernel_rfl) (by kernel_rfl)
      (OpenSpec.preRow_of_cond 8 hx (by kernel_rfl) (fun k hk => by cases hk) (by kernel_rfl) (laid_met os))) ?_
  intro W base args ds gs before hval hW _ _ _ hL hsh _
  exact contract H enc W base args ds gs before hval hW (glob_of_laid6 hL (size_of_shape hsh))

theorem cf_w : (Rows.stmtTypesRow.wf (OpenSpec.ofChange Rows.stmtTypesSpec)) = true := by kernel_rfl
theorem cf_a : (Tryz.f13.params.all (Tryz.prog.readableRec ·)) = true := by kernel_rfl
theorem cf_n : (namedTie Tryz.prog Rows.stmtTypesRow.named Rows.stmtTypesSpec.vars) = true := by kernel_rfl
theorem cf_s : ((Rows.stmtTypesRow.stops == [])) = true := by kernel_rfl
theorem cf_k : ((Rows.stmtTypesRow.knobs == [])) = true := by kernel_rfl
theorem cf_ip : ((Rows.stmtTypesRow.inPlace == Tryz.prog.inPlace 13)) = true := by kernel_rfl
theorem cf_uf : ((Rows.stmtTypesRow.unfollowed == Tryz.prog.unfollowed 13)) = true := by kernel_rfl
theorem cf_rc : ((Rows.stmtTypesRow.recurses == Tryz.prog.recurses 13)) = true := by kernel_rfl
theorem cf_vn : ((Rows.stmtTypesRow.named == Tryz.prog.varsNamed 13)) = true := by kernel_rfl
theorem cf_m : ((Rows.stmtTypesRow.maps == (Tryz.f13.params.toList ++ Rows.stmtTypesSpec.plain.varTypes Tryz.prog).any (Tryz.prog.mapsRec ·))) = true := by kernel_rfl
theorem cf_i : ((Rows.stmtTypesRow.ifaces == (Tryz.f13.params.toList ++ Rows.stmtTypesSpec.plain.varTypes Tryz.prog).any (Tryz.prog.ifacesRec ·))) = true := by kernel_rfl
theorem cf_mo : ((Rows.stmtTypesRow.mapsOut == Tryz.prog.mapsAmong Tryz.f13.resultTypes.toList)) = true := by kernel_rfl
theorem cf_l : ((Rows.stmtTypesRow.loops == (Tryz.f13.params.toList ++ Rows.stmtTypesSpec.plain.varTypes Tryz.prog).any (Tryz.prog.loopsFrom ·))) = true := by kernel_rfl
theorem cf_wk : ((Rows.stmtTypesRow.wideKeys == (Tryz.f13.params.toList ++ Rows.stmtTypesSpec.plain.varTypes Tryz.prog ++ Tryz.f13.resultTypes.toList).any (Tryz.prog.wideKeysFrom ·))) = true := by kernel_rfl
theorem cf_v : (Rows.stmtTypesSpec.vars.all (Tryz.prog.varReadable ·)) = true := by kernel_rfl
theorem cf_rt : (Tryz.f13.resultTypes.all (fun t => Tryz.prog.readableRec t && decide (t < Tryz.prog.types.size))) = true := by kernel_rfl
theorem cf_io : ((Rows.stmtTypesRow.ifacesOut == Tryz.f13.resultTypes.toList.any (Tryz.prog.ifacesRec ·))) = true := by kernel_rfl
theorem cf_lo : ((Rows.stmtTypesRow.loopsOut == Tryz.f13.resultTypes.toList.any (Tryz.prog.loopsFrom ·))) = true := by kernel_rfl
theorem cf_pk : ((Rows.stmtTypesRow.plainKeys == Tryz.prog.plainKeys)) = true := by kernel_rfl
theorem cf_st : (Rows.stmtTypesRow.shortTexts.isNone) = true := by kernel_rfl
theorem cf_lf : ((Rows.stmtTypesRow.lifted == Tryz.prog.liftsFinal)) = true := by kernel_rfl
theorem cf_mk : ((Tryz.prog.make == some Rows.stmtTypesRow.make)) = true := by kernel_rfl
theorem cf_kd : ((Rows.stmtTypesRow.kinds == (if Rows.stmtTypesRow.domain.isEmpty then [] else Tryz.f13.params.toList.map fun t => match Tryz.prog.underlying t with | some (.int k) => some k | _ => none))) = true := by kernel_rfl
theorem cf_pn : ((Rows.stmtTypesRow.pinned == Rows.stmtTypesRow.pinnedBy)) = true := by kernel_rfl
theorem cf_ve : ((Rows.stmtTypesRow.veiled == (Tryz.f13.params.toList ++ Rows.stmtTypesSpec.plain.varTypes Tryz.prog ++ Tryz.f13.resultTypes.toList).any (Tryz.prog.veiledRec ·))) = true := by kernel_rfl
theorem cf_vf : (Rows.stmtTypesRow.veiledFits Tryz.prog Tryz.f13.params.toList (Tryz.f13.params.toList ++ Rows.stmtTypesSpec.plain.varTypes Tryz.prog ++ Tryz.f13.resultTypes.toList)) = true := by kernel_rfl
set_option maxRecDepth 100000 in
theorem cf_all : joinedFacts Tryz.prog 13 Tryz.f13 Rows.stmtTypesSpec Rows.stmtTypesRow = true := by
  unfold joinedFacts
  exact (amt (amt (amt (amt (amt (amt (amt (amt (amt (amt (amt (amt (amt (amt (amt (amt (amt (amt (amt (amt (amt (amt (amt (amt (amt (amt (amt (amt (amt (amt (amt cf_w pfLaid) pfMaps) cf_a) cf_n) cf_s) pfStops) cf_k) pfKnobs) cf_ip) cf_uf) cf_rc) cf_vn) cf_m) cf_i) cf_mo) cf_l) cf_wk) cf_v) cf_rt) cf_io) cf_lo) cf_pk) cf_st) pfHeard) pfEnter) cf_lf) cf_mk) cf_kd) cf_pn) cf_ve) cf_vf)
theorem cf_fn : Tryz.pinned.checked.prog.funcNamed Rows.stmtTypesRow.func = some 13 := by kernel_rfl
theorem cf_inst : Tryz.f13.isInstance Tryz.pinned.checked.prog Rows.stmtTypesRow.origin Rows.stmtTypesRow.targs := of_decide_eq_true (by kernel_rfl)
set_option maxRecDepth 100000 in
theorem cf_wrap : Tryz.f13.isWrapper Tryz.pinned.checked.prog Rows.stmtTypesRow.wrapper Rows.stmtTypesRow.mainSum := by unfold Func.isWrapper; first | (rw [if_pos (by decide +kernel)]; kernel_rfl) | (rw [if_neg (by decide +kernel)]; exact ⟨rfl, rfl⟩)
set_option maxRecDepth 100000 in
theorem cf_joined : joinedFacts Tryz.pinned.checked.prog 13 Tryz.f13 (OpenSpec.ofChange Rows.stmtTypesSpec).bare Rows.stmtTypesRow = true := cf_all

theorem said : Rows.StmtTypesSaid :=
  OpenClaim.holds_of_cond 13 Tryz.f13 rfl rfl rfl rfl rfl rfl rfl ⟨rfl, rfl, rfl, rfl, rfl⟩ rfl rfl rfl rfl rfl cf_fn Tryz.func13 cf_joined cf_inst cf_wrap
    (fun os started H enc _ F => by rw [OpenClaim.pre_eq_preRow]; exact lifted os started H enc F)

theorem cf_text : Rows.stmtTypesRow.wfByText (OpenSpec.ofChange Rows.stmtTypesSpec) = true := by kernel_rfl
theorem cf_par : (Tryz.f13.params.all fun u => !Tryz.prog.wantsStandIn u) = true := by kernel_rfl
theorem cf_named : Tryz.prog.funcNamed Rows.stmtTypesRow.func = some 13 := by kernel_rfl
theorem cf_goes : false = Rows.stmtTypesRow.goesBy Tryz.pinned.checked.prog := by kernel_rfl

/-- THE CARD. -/
theorem card : Rows.StmtTypesCardSaid :=
  Claim7.holds_tied_plain_at .later [] _ _ _ _ said (fun _ h => by cases h) cf_text (fun _ h => by cases h) stmtTypes_row_tie rfl ⟨rfl, rfl⟩ pfMain rfl
    (fun f fn hf hfn => plainOf cf_named Tryz.func13 pfLooks cf_par f fn hf hfn) cf_goes
end Go.Proofs.YtoldhocdfkndbaaGreatDoor.E6.types
