/-
  StmtDeep: the law returns true for every argument; its arguments read afterwards as before. Condition: the listed variables hold what their initialisers lay (the card ties that to the program's text).
-/
import Derived.Test.YtlhifbckmknijaaGreatDoorTWorks
import Derived.Test.YtlhifbckmknijaaGreatDoorTRow
import Derived.Test.YtlhifbckmknijaaGreatDoorTFrame
import Derived.Test.YtlhifbckmknijaaGreatDoorEFrame
namespace Go.Proofs.YtlhifbckmknijaaGreatDoor.E6.sdeep
open Go Go.ChangeShapes Go.WideShapes Go.ChangeAt Go.RowKit Go.Joins Go.Proofs.YtlhifbckmknijaaGreatDoor Go.Proofs.YtlhifbckmknijaaGreatDoor.E5 Go.Proofs.YtlhifbckmknijaaGreatDoor.E6
open Go.ChangeMaps (open_string shut_string)

set_option maxRecDepth 100000 in
theorem contract (H : Type) (enc : TypeId × Value → H) (W : World) (base : Nat) (args : Array Value) (ds gs : List (DataW H)) (before : List MemPlace)
    (hval : ∀ (j : Nat) t v, Tryz.f8.params[j]? = some t → args[j]? = some v → Value.okWide Tryz.prog W .any base t v)
    (hW : DataW.Whole enc Tryz.prog Tryz.f8.params.toList Rows.stmtDeepSpec.vars false W args.toList ds gs before) (hG : Glob6 W) :
    Calls Tryz.prog 8 args W fun e W' => ∃ v, e = .returned v ∧ Rows.stmtDeepSpec.post enc Tryz.prog Tryz.f8 false true false false W args v W' := by
  have hW' := hW
  obtain ⟨p, q, hA0, hV, rfl, hfz, hnd⟩ := hW
  have hA : DataW.TrodAll enc Tryz.prog W 0 (fun _ => true) true Tryz.f8.params.toList args.toList ds p := hA0
  rw [Tryz.params8] at hA hval
  obtain ⟨v0, vs0, d0, ds0, p0, q0, hargs, rfl, rfl, h0, r0⟩ := trodAll_cons hA
  obtain ⟨v1, vs1, d1, ds1, p1, q1, rfl, rfl, rfl, h1, r1⟩ := trodAll_cons r0
  obtain ⟨v2, vs2, d2, ds2, p2, q2, rfl, rfl, rfl, h2, r2⟩ := trodAll_cons r1
  obtain ⟨rfl, rfl, rfl⟩ := trodAll_nil r2
  obtain rfl : args = #[v0, v1, v2] := by cases args; simp_all
  obtain ⟨rfl, rfl⟩ := trodVars_none hV
  clear hA0
  simp only [List.append_nil] at hW'
  have t0 : ∀ W', Below W.heap.size W W' → DataW.Trod enc Tryz.prog W' 0 (fun b => decide (b < W.heap.size)) true 5 v0 d0 p0 := fun W' hb => Below.trod pfLaid (by kernel_rfl) (of_decide_eq_true (by kernel_rfl)) h0 hb (fun x hx => by have := hW'.lt x (by simp [hx]); simpa using this)
  have t1 : ∀ W', Below W.heap.size W W' → DataW.Trod enc Tryz.prog W' 0 (fun b => decide (b < W.heap.size)) true 5 v1 d1 p1 := fun W' hb => Below.trod pfLaid (by kernel_rfl) (of_decide_eq_true (by kernel_rfl)) h1 hb (fun x hx => by have := hW'.lt x (by simp [hx]); simpa using this)
  have t2 : ∀ W', Below W.heap.size W W' → DataW.Trod enc Tryz.prog W' 0 (fun b => decide (b < W.heap.size)) true 72 v2 d2 p2 := fun W' hb => Below.trod pfLaid (by kernel_rfl) (of_decide_eq_true (by kernel_rfl)) h2 hb (fun x hx => by have := hW'.lt x (by simp [hx]); simpa using this)
  obtain ⟨x0, rfl, _, _, w0⟩ := open_int Tryz.underlying5 (hval 0 5 v0 rfl rfl) h0
  have m0 : 0 ≤ x0 ∧ x0 ≤ 255 := by simpa [Lit.wf, IntKind.min, IntKind.max, IntKind.signed, IntKind.bits] using w0
  obtain ⟨n0, rfl⟩ := Int.eq_ofNat_of_zero_le m0.1
  obtain ⟨x1, rfl, _, _, w1⟩ := open_int Tryz.underlying5 (hval 1 5 v1 rfl rfl) h1
  have m1 : 0 ≤ x1 ∧ x1 ≤ 255 := by simpa [Lit.wf, IntKind.min, IntKind.max, IntKind.signed, IntKind.bits] using w1
  obtain ⟨n1, rfl⟩ := Int.eq_ofNat_of_zero_le m1.1
  obtain ⟨x2, rfl, _, _, w2⟩ := open_int Tryz.underlying72 (hval 2 72 v2 rfl rfl) h2
  have m2 : 0 ≤ x2 ∧ x2 ≤ 4294967295 := by simpa [Lit.wf, IntKind.min, IntKind.max, IntKind.signed, IntKind.bits] using w2
  obtain ⟨n2, rfl⟩ := Int.eq_ofNat_of_zero_le m2.1
  refine (sdeep_law works6 n0 n1 n2 (by have := m0.2; omega) (by have := m1.2; omega) (by have := m2.2; omega) W hG).mono fun e W' ⟨he, hb⟩ => ?_
  subst he
  exact ⟨_, rfl, post_kept (pv := []) hW' (fun _ _ _ => trodAll_cons_mk (shut_bool Tryz.underlying4 _) trodAll_mk0)
    (trodAll_cons_mk (t0 W' hb) (trodAll_cons_mk (t1 W' hb) (trodAll_cons_mk (t2 W' hb) trodAll_mk0))) rfl (by simp) hb⟩

theorem laid_met (os : Os) : laidMet Tryz.prog Rows.stmtDeepRow.laid ((laidWorld6 os).forCall (fun _ _ => 0) ⟨#[], #[.int .u8 0, .int .u8 0, .int .u32 0], []⟩).memory :=
  laidMet_of_run3 8 (by kernel_rfl) (by kernel_rfl) (by kernel_rfl)
theorem reads (os : Os) {H : Type} (enc : TypeId × Value → H) : ∃ places, DataW.whole enc Tryz.prog ((laidWorld6 os).forCall (fun _ _ => 0) ⟨#[], #[.int .u8 0, .int .u8 0, .int .u32 0], []⟩).memory Tryz.f8.params.toList Rows.stmtDeepSpec.vars false #[.int .u8 0, .int .u8 0, .int .u32 0].toList 8 = some ([.lit (.int .u8 0), .lit (.int .u8 0), .lit (.int .u32 0)], [], places) :=
  ⟨[], by kernel_rfl⟩

set_option maxRecDepth 100000 in
theorem lifted (os : Os) (started : os.Started) (H : Type) (enc : TypeId × Value → H) (F : Stop.Interp) :
    ReturnsInHanded {} Tryz.checked os 8 .any ((OpenSpec.ofChange Rows.stmtDeepSpec).preRow enc Tryz.prog Tryz.f8 Rows.stmtDeepRow.domain false Rows.stmtDeepRow.laid) (((OpenSpec.ofChange Rows.stmtDeepSpec).at F).post enc Tryz.prog Tryz.f8 false true false false) := by
  obtain ⟨places, hx⟩ := reads os enc
  refine returnsInHanded_of_row (C := Tryz.checked) (s := OpenSpec.ofChange Rows.stmtDeepSpec) own started (by kernel_rfl) Tryz.func8
    (witness_row_atRef (enc := enc) (C := Tryz.checked) false (laidWorld6 os) #[.int .u8 0, .int .u8 0, .int .u32 0] rfl (by kernel_rfl) (by kernel_rfl) (by kernel_rfl)
      (OpenSpec.preRow_of_cond 8 hx (by kernel_rfl) (fun k hk => by cases hk) (by kernel_rfl) (laid_met os))) ?_
  intro W base args ds gs before hval hW _ _ _ hL hsh _
  exact contract H enc W base args ds gs before hval hW (glob_of_laid6 hL (size_of_shape hsh))

theorem cf_w : (Rows.stmtDeepRow.wf (OpenSpec.ofChange Rows.stmtDeepSpec)) = true := by kernel_rfl
theorem cf_a : (Tryz.f8.params.all (Tryz.prog.readableRec ·)) = true := by kernel_rfl
theorem cf_n : (namedTie Tryz.prog Rows.stmtDeepRow.named Rows.stmtDeepSpec.vars) = true := by kernel_rfl
theorem cf_s : ((Rows.stmtDeepRow.stops == [])) = true := by kernel_rfl
theorem cf_k : ((Rows.stmtDeepRow.knobs == [])) = true := by kernel_rfl
theorem cf_ip : ((Rows.stmtDeepRow.inPlace == Tryz.prog.inPlace 8)) = true := by kernel_rfl
theorem cf_uf : ((Rows.stmtDeepRow.unfollowed == Tryz.prog.unfollowed 8)) = true := by kernel_rfl
theorem cf_rc : ((Rows.stmtDeepRow.recurses == Tryz.prog.recurses 8)) = true := by kernel_rfl
theorem cf_vn : ((Rows.stmtDeepRow.named == Tryz.prog.varsNamed 8)) = true := by kernel_rfl
theorem cf_m : ((Rows.stmtDeepRow.maps == (Tryz.f8.params.toList ++ Rows.stmtDeepSpec.plain.varTypes Tryz.prog).any (Tryz.prog.mapsRec ·))) = true := by kernel_rfl
theorem cf_i : ((Rows.stmtDeepRow.ifaces == (Tryz.f8.params.toList ++ Rows.stmtDeepSpec.plain.varTypes Tryz.prog).any (Tryz.prog.ifacesRec ·))) = true := by kernel_rfl
theorem cf_mo : ((Rows.stmtDeepRow.mapsOut == Tryz.prog.mapsAmong Tryz.f8.resultTypes.toList)) = true := by kernel_rfl
theorem cf_l : ((Rows.stmtDeepRow.loops == (Tryz.f8.params.toList ++ Rows.stmtDeepSpec.plain.varTypes Tryz.prog).any (Tryz.prog.loopsFrom ·))) = true := by kernel_rfl
theorem cf_wk : ((Rows.stmtDeepRow.wideKeys == (Tryz.f8.params.toList ++ Rows.stmtDeepSpec.plain.varTypes Tryz.prog ++ Tryz.f8.resultTypes.toList).any (Tryz.prog.wideKeysFrom ·))) = true := by kernel_rfl
theorem cf_v : (Rows.stmtDeepSpec.vars.all (Tryz.prog.varReadable ·)) = true := by kernel_rfl
theorem cf_rt : (Tryz.f8.resultTypes.all (fun t => Tryz.prog.readableRec t && decide (t < Tryz.prog.types.size))) = true := by kernel_rfl
theorem cf_io : ((Rows.stmtDeepRow.ifacesOut == Tryz.f8.resultTypes.toList.any (Tryz.prog.ifacesRec ·))) = true := by kernel_rfl
theorem cf_lo : ((Rows.stmtDeepRow.loopsOut == Tryz.f8.resultTypes.toList.any (Tryz.prog.loopsFrom ·))) = true := by kernel_rfl
theorem cf_pk : ((Rows.stmtDeepRow.plainKeys == Tryz.prog.plainKeys)) = true := by kernel_rfl
theorem cf_st : (Rows.stmtDeepRow.shortTexts.isNone) = true := by kernel_rfl
theorem cf_lf : ((Rows.stmtDeepRow.lifted == Tryz.prog.liftsFinal)) = true := by kernel_rfl
theorem cf_mk : ((Tryz.prog.make == some Rows.stmtDeepRow.make)) = true := by kernel_rfl
theorem cf_kd : ((Rows.stmtDeepRow.kinds == (if Rows.stmtDeepRow.domain.isEmpty then [] else Tryz.f8.params.toList.map fun t => match Tryz.prog.underlying t with | some (.int k) => some k | _ => none))) = true := by kernel_rfl
theorem cf_pn : ((Rows.stmtDeepRow.pinned == Rows.stmtDeepRow.pinnedBy)) = true := by kernel_rfl
theorem cf_ve : ((Rows.stmtDeepRow.veiled == (Tryz.f8.params.toList ++ Rows.stmtDeepSpec.plain.varTypes Tryz.prog ++ Tryz.f8.resultTypes.toList).any (Tryz.prog.veiledRec ·))) = true := by kernel_rfl
theorem cf_vf : (Rows.stmtDeepRow.veiledFits Tryz.prog Tryz.f8.params.toList (Tryz.f8.params.toList ++ Rows.stmtDeepSpec.plain.varTypes Tryz.prog ++ Tryz.f8.resultTypes.toList)) = true := by kernel_rfl
set_option maxRecDepth 100000 in
theorem cf_all : joinedFacts Tryz.prog 8 Tryz.f8 Rows.stmtDeepSpec Rows.stmtDeepRow = true := by
  unfold joinedFacts
  exact (amt (amt (amt (amt (amt (amt (amt (amt (amt (amt (amt (amt (amt (amt (amt (amt (amt (amt (amt (amt (amt (amt (amt (amt (amt (amt (amt (amt (amt (amt (amt cf_w pfLaid) pfMaps) cf_a) cf_n) cf_s) pfStops) cf_k) pfKnobs) cf_ip) cf_uf) cf_rc) cf_vn) cf_m) cf_i) cf_mo) cf_l) cf_wk) cf_v) cf_rt) cf_io) cf_lo) cf_pk) cf_st) pfHeard) pfEnter) cf_lf) cf_mk) cf_kd) cf_pn) cf_ve) cf_vf)
theorem cf_fn : Tryz.pinned.checked.prog.funcNamed Rows.stmtDeepRow.func = some 8 := by kernel_rfl
theorem cf_inst : Tryz.f8.isInstance Tryz.pinned.checked.prog Rows.stmtDeepRow.origin Rows.stmtDeepRow.targs := of_decide_eq_true (by kernel_rfl)
set_option maxRecDepth 100000 in
theorem cf_wrap : Tryz.f8.isWrapper Tryz.pinned.checked.prog Rows.stmtDeepRow.wrapper Rows.stmtDeepRow.mainSum := by unfold Func.isWrapper; first | (rw [if_pos (by decide +kernel)]; kernel_rfl) | (rw [if_neg (by decide +kernel)]; exact ⟨rfl, rfl⟩)
set_option maxRecDepth 100000 in
theorem cf_joined : joinedFacts Tryz.pinned.checked.prog 8 Tryz.f8 (OpenSpec.ofChange Rows.stmtDeepSpec).bare Rows.stmtDeepRow = true := cf_all

theorem said : Rows.StmtDeepSaid :=
  OpenClaim.holds_of_cond 8 Tryz.f8 rfl rfl rfl rfl rfl rfl rfl ⟨rfl, rfl, rfl, rfl, rfl⟩ rfl rfl rfl rfl rfl cf_fn Tryz.func8 cf_joined cf_inst cf_wrap
    (fun os started H enc _ F => by rw [OpenClaim.pre_eq_preRow]; exact lifted os started H enc F)

theorem cf_text : Rows.stmtDeepRow.wfByText (OpenSpec.ofChange Rows.stmtDeepSpec) = true := by kernel_rfl
theorem cf_par : (Tryz.f8.params.all fun u => !Tryz.prog.wantsStandIn u) = true := by kernel_rfl
theorem cf_named : Tryz.prog.funcNamed Rows.stmtDeepRow.func = some 8 := by kernel_rfl
theorem cf_goes : false = Rows.stmtDeepRow.goesBy Tryz.pinned.checked.prog := by kernel_rfl

/-- THE CARD. -/
theorem card : Rows.StmtDeepCardSaid :=
  Claim7.holds_tied_plain_at .later [] _ _ _ _ said (fun _ h => by cases h) cf_text (fun _ h => by cases h) stmtDeep_row_tie rfl ⟨rfl, rfl⟩ pfMain rfl
    (fun f fn hf hfn => plainOf cf_named Tryz.func8 pfLooks cf_par f fn hf hfn) cf_goes
end Go.Proofs.YtlhifbckmknijaaGreatDoor.E6.sdeep
