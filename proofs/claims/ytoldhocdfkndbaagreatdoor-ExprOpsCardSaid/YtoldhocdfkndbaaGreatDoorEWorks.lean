/-
  works: the chapter's examples hold.
  ExprOps: the law returns true.
-/
import Derived.Test.YtoldhocdfkndbaaGreatDoorEWk
import Derived.Test.YtoldhocdfkndbaaGreatDoorSEq
import Derived.Maps.RangeWalk
import Derived.Carry
import Derived.StringKeys
import Derived.Deep.RegionHeld3
import Derived.Test.YtoldhocdfkndbaaGreatDoorEFrame
namespace Go.Proofs.YtoldhocdfkndbaaGreatDoor.E5
open Go Go.RowKit Go.Proofs.YtoldhocdfkndbaaGreatDoor Go.Maps

/-- A box that holds an expression. -/
structure Bx (W : World) (M p : Nat) (e : Ex) (v : Value) : Prop where
  x : S3.EBox W p e v
  lt : p < M
  a : S3.EIn W M e.args v
  ok : S3.OkE e
theorem Bx.bel {W W' : World} {M p : Nat} {e : Ex} {v : Value} (h : Bx W M p e v) (hb : Below M W W') : Bx W' M p e v := by
  obtain ⟨⟨c0, c1, c2, c3, c4⟩, h2, h3, h4⟩ := h
  have k := fun i => hb.cell (p := ⟨p, i, none⟩) h2
  exact ⟨⟨(k _).trans c0, (k _).trans c1, (k _).trans c2, (k _).trans c3, (k _).trans c4⟩, h2, h3.bel hb, h4⟩
theorem Bx.up {W W' : World} {p : Nat} {e : Ex} {v : Value} (h : Bx W W.heap.size p e v) (hb : Below W.heap.size W W') : Bx W' W'.heap.size p e v := by
  obtain ⟨h1, h2, h3, h4⟩ := h.bel hb
  exact ⟨h1, Nat.lt_of_lt_of_le h2 hb.size, h.a.up hb, h4⟩
theorem Bx.new {w : World} {e : Ex} {v : Value} (ho : S3.OkE e) (hE : S3.EIn w w.heap.size e.args v) : Bx (w.alloc (S3.eO e v)) (w.alloc (S3.eO e v)).heap.size w.heap.size e v :=
  ⟨S3.EBox.new w e v, by simp, hE.al _, ho⟩

section
variable {H : Type} {P : Program} (w : World) {ops : Array Oper} {rest : List Oper} {o : Oper} {a : Act} {Q : Exit → Act → World → Prop}
theorem wpList_insert_own (hg : o.guard = none) (m x v : Operand) (t : TypeId) (hop : o.op = Op.insert t m x v)
    (k e : TypeId) (K : Keyed P k) (ht : P.underlying t = some (.map k e)) (R : Value → Option (DataW H × List MemPlace)) (b n : Nat) (D : DataW H)
    (hm : a.eval m = .map (some b)) (hown : w.ownsMap P k R b n D) (hn : n < maxLen) (key val : Value) (kl : Lit) (hx : a.eval x = key) (hv : a.eval v = val) (hkey : keyOf P k key = some kl)
    (d : DataW H) (ps : List MemPlace) (hval : R val = some (d, ps))
    (hK : ∀ w', w'.ownsMap P k R b (n + 1) (D.put kl d) → w.grownBy w' (some b) → wpList P ops Q rest (a.put o.dst undef) w') :
    wpList P ops Q (o :: rest) a w := by
  refine wpList_plain hg fun K' hK' => ?_
  obtain ⟨w', hrun, r1, r2⟩ := hown.update K ht hn hkey hval
  unfold Oper.wp
  simp [execOp, hop, hm, hx, hv, hrun, Result.andThen]
  exact hK' _ _ (hK w' r1 r2)
/-- A map is made in a world of which only what was said is known. -/
theorem wpList_makeMap_at (hg : o.guard = none) (t : TypeId) (hop : o.op = Op.makeMap t none) (S : World → Prop) (hS : S w)
    (hK : ∀ W, S W → wpList P ops Q rest (a.put o.dst (.map (some W.heap.size))) (W.alloc (.map #[] 0))) : wpList P ops Q (o :: rest) a w := by
  refine wpList_plain hg fun K' hK' => ?_
  unfold Oper.wp
  simp [execOp, hop, run_makeMap, Result.andThen]
  exact hK' _ _ (hK w hS)
end
noncomputable abbrev RI : Value → Option (DataW Nat × List MemPlace) := plainElem Tryz.prog 3
theorem law_s : Keyed Tryz.prog 9 := string_keyed Tryz.underlying9
noncomputable def DM : DataW Nat := (((((((DataW.map []).put (Lit.string []) (DataW.lit (Lit.int IntKind.i64 0))).put (Lit.string [97, 32, 43]) (DataW.lit (Lit.int IntKind.i64 2))).put (Lit.string [40, 97]) (DataW.lit (Lit.int IntKind.i64 2))).put (Lit.string [97, 91, 49]) (DataW.lit (Lit.int IntKind.i64 3))).put (Lit.string [108, 101, 110, 40, 49, 41]) (DataW.lit (Lit.int IntKind.i64 2))).put (Lit.string [105, 110, 116]) (DataW.lit (Lit.int IntKind.i64 0)))
theorem DM_eq : DM = .map [(.string [], .lit (.int .i64 0)), (.string [40, 97], .lit (.int .i64 2)), (.string [97, 32, 43], .lit (.int .i64 2)), (.string [97, 91, 49], .lit (.int .i64 3)), (.string [105, 110, 116], .lit (.int .i64 0)), (.string [108, 101, 110, 40, 49, 41], .lit (.int .i64 2))] := by kernel_rfl
theorem DM_at (b : Bytes) (c : Int) (h : ∀ zd, DM.atKey (.string b) zd = .lit (.int .i64 c)) : ∃ n : Nat, c = n ∧ parseR (tlS b) 0 0 = .bad n 7 ∧ b.length ≤ 1000000 := by
  have h := h (.lit (.bool true))
  rw [DM_eq] at h
  have e : ∀ x : Bytes, Lit.sameKey (.string x) (.string b) = (x == b) := fun _ => rfl
  simp only [DataW.atKey, List.find?_cons, List.find?_nil, e] at h
  by_cases h0 : ([] : Bytes) = b
  · subst h0; simp at h; subst h; exact ⟨0, rfl, wf_m0, by decide⟩
  by_cases h1 : ([40, 97] : Bytes) = b
  · subst h1; simp at h; subst h; exact ⟨2, rfl, wf_m2, by decide⟩
  by_cases h2 : ([97, 32, 43] : Bytes) = b
  · subst h2; simp at h; subst h; exact ⟨2, rfl, wf_m1, by decide⟩
  by_cases h3 : ([97, 91, 49] : Bytes) = b
  · subst h3; simp at h; subst h; exact ⟨3, rfl, wf_m3, by decide⟩
  by_cases h4 : ([105, 110, 116] : Bytes) = b
  · subst h4; simp at h; subst h; exact ⟨0, rfl, wf_m5, by decide⟩
  by_cases h5 : ([108, 101, 110, 40, 49, 41] : Bytes) = b
  · subst h5; simp at h; subst h; exact ⟨2, rfl, wf_m4, by decide⟩
  · simp only [beq_eq_false_iff_ne.2 h0, beq_eq_false_iff_ne.2 h1, beq_eq_false_iff_ne.2 h2, beq_eq_false_iff_ne.2 h3, beq_eq_false_iff_ne.2 h4, beq_eq_false_iff_ne.2 h5] at h
    cases h
theorem key_inv (key : Value) (kl : Lit) (h : keyOf Tryz.prog 9 key = some kl) : ∃ x, key = .string x := by
  cases key <;> simp [keyOf, Tryz.underlying9, mapKey] at h
  exact ⟨_, rfl⟩
theorem val_inv (v : Value) (y : DataW Nat × List MemPlace) (h : RI v = some y) : ∃ c, v = Value.int .i64 c := by
  obtain ⟨c, rfl, _⟩ := plainElem_int_inv Tryz.underlying3 h
  exact ⟨c, rfl⟩
theorem DM_pair {x : ByteArray} {c : Int} {kl : Lit} {y : DataW Nat × List MemPlace} (hkey : keyOf Tryz.prog 9 (.string x) = some kl) (hR : RI (.int .i64 c) = some y) (hat : ∀ zd, DM.atKey kl zd = y.1) : ∃ (b : Bytes) (n : Nat), x = B b ∧ c = n ∧ parseR (tlS b) 0 0 = .bad n 7 ∧ b.length ≤ 1000000 := by
  obtain ⟨c', e, rfl, _⟩ := plainElem_int_inv Tryz.underlying3 hR
  cases e
  have hk : kl = .string x.data.toList := by
    simp [keyOf, Tryz.underlying9, mapKey] at hkey
    exact hkey.2.symm
  subst hk
  obtain ⟨n, h1, h2, h3⟩ := DM_at x.data.toList c hat
  exact ⟨x.data.toList, n, rfl, h1, h2, h3⟩
def rep41 : Bytes := [40, 40, 40, 40, 40, 40, 40, 40, 40, 40, 40, 40, 40, 40, 40, 40, 40, 40, 40, 40, 40, 40, 40, 40, 40, 40, 40, 40, 40, 40, 40, 40, 40, 40, 40, 40, 40, 40, 40, 40, 40]
theorem rep_calls (w : World) : Calls Tryz.prog 23 #[.string ⟨#[40]⟩, .int .i64 41] w fun e w' => e = .returned (.string (B rep41)) ∧ Below w.heap.size w w' :=
  (Tryz.strings_Repeat ⟨#[40]⟩ 41 w (by decide) (by decide)).mono fun _ _ h => ⟨h.1, h.2⟩
theorem grown_none {w w' : World} (h : Below w.heap.size w w') : w.grownBy w' none := ⟨h.os, h.tape, h.output, h.size, fun k hk _ => h.block k hk⟩
theorem ok_v (s : Bytes) (h : s.length ≤ 1000) : S3.OkE (vE s) := okE_leaf (by decide) (okI_small (show (0 : Int) ≤ 0 by decide) (show (0 : Int) ≤ 100 by decide)) (by omega)
theorem ok_n (n : Int) (h : 0 ≤ n ∧ n ≤ 100) : S3.OkE (nE n) := okE_leaf (by decide) (okI_small h.1 h.2) (Nat.zero_le _)
theorem ok_p (op : Int) (a b : Ex) (h : 0 ≤ op ∧ op ≤ 100) : S3.OkE (pE op a b) := ⟨okI_small (show (0 : Int) ≤ 5 by decide) (show (5 : Int) ≤ 100 by decide), okI_small h.1 h.2, okI_small (show (0 : Int) ≤ 0 by decide) (show (0 : Int) ≤ 100 by decide), Nat.zero_le _⟩
theorem ok_m : S3.OkE ⟨4, 14, 0, [], [vE [120]]⟩ := ⟨by unfold S3.okI; decide, by unfold S3.okI; decide, by unfold S3.okI; decide, by decide⟩
theorem ein_nil (w : World) : S3.EIn w w.heap.size [] (.slice none 0 0) := er_nil _ _
open S3 in
theorem ein_one {w : World} {a : Ex} {va : Value} {c : Nat} (ha : OkE a) (h1 : EIn w w.heap.size a.args va) (T : TypeId) (ws : List Value) (hw : ws = eC a va) :
    EIn (w.alloc (.cells ws.toArray T)) (w.alloc (.cells ws.toArray T)).heap.size [a] (.slice (some ⟨w.heap.size, 0, none⟩) 1 c) := by
  subst hw
  have k := fun (i : Nat) (u : Value) (h : (eC a va)[i]? = some u) => newCell w (eC a va).toArray T i u (by rw [List.getElem?_toArray]; exact h)
  refine .mk [a] (some ⟨w.heap.size, 0, none⟩) c (fun _ => va) (by simp) (fun i e he => ?_) (fun i e he => ?_)
  · match i, he with
    | 0, he => cases he; exact ⟨_, 0, rfl, by simp, ha, ⟨k 0 _ rfl, k 1 _ rfl, k 2 _ rfl, k 3 _ rfl, k 4 _ rfl⟩⟩
    | i + 1, he => simp at he
  · match i, he with
    | 0, he => cases he; exact h1.al _
    | i + 1, he => simp at he
/-- What is known of the three boxes. -/
structure W3 (w W : World) (a b c : Nat) (va vb vc : Value) : Prop where
  hb : Below w.heap.size w W
  g : GlobA W
  a : Bx W W.heap.size a (pE 2 (pE 2 (vE [97]) (vE [98])) (pE 3 (vE [99]) (vE [100]))) va
  b : Bx W W.heap.size b (pE 3 ⟨4, 14, 0, [], [vE [120]]⟩ (vE [121])) vb
  c : Bx W W.heap.size c (vE [97]) vc

abbrev xA : Ex := pE 2 (pE 2 (vE [97]) (vE [98])) (pE 3 (vE [99]) (vE [100]))
abbrev xB : Ex := pE 3 ⟨4, 14, 0, [], [vE [120]]⟩ (vE [121])
abbrev xL : Ex := pE 1 (nE 1) (nE 2)
/-- What is known when the last line is reached. -/
structure Fin5 (w W : World) (a b c d e bl ol : Nat) (va vb vc vd ve vl : Value) : Prop where
  hb : Below w.heap.size w W
  g : GlobA W
  a : Bx W W.heap.size a xA va
  b : Bx W W.heap.size b xB vb
  c : Bx W W.heap.size c (vE [97]) vc
  d : Bx W W.heap.size d xA vd
  e : Bx W W.heap.size e xB ve
  l : S3.ECells W bl (ol + 5) xL vl
  lt : bl < W.heap.size
  la : S3.EIn W W.heap.size [nE 1, nE 2] vl
theorem Fin5.up {w W W' : World} {a b c d e bl ol : Nat} {va vb vc vd ve vl : Value} (h : Fin5 w W a b c d e bl ol va vb vc vd ve vl) (hb : Below W.heap.size W W') : Fin5 w W' a b c d e bl ol va vb vc vd ve vl :=
  ⟨S3.after h.hb hb, h.g.up hb, h.a.up hb, h.b.up hb, h.c.up hb, h.d.up hb, h.e.up hb, h.l.keep (fun i => hb.cell (p := ⟨bl, i, none⟩) h.lt), Nat.lt_of_lt_of_le h.lt hb.size, h.la.up hb⟩
theorem drew_below (W : World) : Below W.heap.size W W.drew := ⟨rfl, rfl, rfl, Nat.le_refl _, fun _ _ => rfl⟩
theorem same_true (e : Ex) (ho : S3.OkE e) (hx : S3.exB e = true) (va vb : Value) (w : World) (hE1 : S3.EIn w w.heap.size e.args va) (hE2 : S3.EIn w w.heap.size e.args vb) (hG : S3.Glob w) :
    Calls Tryz.prog 27 #[S3.eV e va, S3.eV e vb] w fun r w' => r = .returned (.bool true) ∧ Below w.heap.size w w' := by
  refine (S3.sameExpr_calls e e ho ho va vb w hE1 hE2 hG).mono ?_
  rintro r w' ⟨rfl, hb⟩
  refine ⟨?_, hb⟩
  rw [show S3.sameE e e = true by simp [S3.sameE, S3.eqE, hx]]
theorem xA_x : S3.exB xA = true := by decide +kernel
theorem xB_x : S3.exB xB = true := by decide +kernel
theorem xL_x : S3.exB xL = true := by decide +kernel
theorem xV_x : S3.exB (vE [97]) = true := by decide +kernel
theorem sign9 (W : World) (hG : GlobO W) : Calls Tryz.prog 18 #[.int .i64 9] W fun e w' => e = .returned (.string ⟨#[60, 61]⟩) ∧ Below W.heap.size W w' := (sign_calls 9 W hG).mono fun _ _ h => ⟨by rw [h.1, wf_p], h.2⟩
theorem sign16 (W : World) (hG : GlobO W) : Calls Tryz.prog 18 #[.int .i64 16] W fun e w' => e = .returned (.string ⟨#[]⟩) ∧ Below W.heap.size W w' := (sign_calls 16 W hG).mono fun _ _ h => ⟨by rw [h.1, wf_q], h.2⟩
set_option maxRecDepth 100000 in
set_option maxHeartbeats 4000000 in
theorem works_calls (w : World) (hG : GlobA w) :
    Calls Tryz.prog 15 #[] w fun e w' => e = .returned (.bool true) ∧ Below w.heap.size w w' := by
  have HG := Lib.hid hG
  clear hG
  have hmm := @run_makeMap Tryz.prog
  go_enter Tryz.func15, Tryz.ntmps15
  simp only [List.append_eq, List.cons_append, List.nil_append]
  go_wp2_with fail
  refine (scan_fn [97, 32, 45, 32, 98, 32, 45, 32, 99, 32, 42, 32, 100] (by decide) _ HG.out.l).mono ?_
  rintro E w1 ⟨A1, c1, rfl, hT, hb⟩
  have HG1 := Lib.hid (HG.out.up hb)
  have HT := Lib.hid hT
  have HB := Lib.hid hb
  clear hT hb
  go_wp2_with fail
  refine (parse_calls (i := 0) (d := 0) HT.out HG1.out.e (Nat.zero_le _) (by decide)).mono ?_
  rw [wf_a]
  rintro E w2 ⟨A2, k2, c2, rfl, ho, hE, hb⟩
  have HG2 := Lib.hid (HG1.out.up hb)
  have HB2 := Lib.hid (S3.after HB.out hb)
  have HX := Lib.hid (Bx.new ho (er_in hE (Nat.le_refl _)))
  clear ho hE hb HT HB HG1
  go_wp2_with fail
  refine (scan_fn [45, 120, 32, 42, 32, 121] (by decide) _ (HG2.out.al _).l).mono ?_
  rintro E w3 ⟨A3, c3, rfl, hT, hb⟩
  have HG3 := Lib.hid ((HG2.out.al _).up hb)
  have HT := Lib.hid hT
  have HB3 := Lib.hid (S3.after (HB2.out.alloc HB2.out.size _) hb)
  have HX3 := Lib.hid (HX.out.up hb)
  clear hT hb HX HG2 HB2
  go_wp2_with fail
  refine (parse_calls (i := 0) (d := 0) HT.out HG3.out.e (Nat.zero_le _) (by decide)).mono ?_
  rw [wf_b]
  rintro E w4 ⟨A4, k4, c4, rfl, ho, hE, hb⟩
  have HG4 := Lib.hid (HG3.out.up hb)
  have HB4 := Lib.hid (S3.after HB3.out hb)
  have HX4 := Lib.hid ((HX3.out.up hb).up (S3.bal w4 (S3.eO (pE 3 ⟨4, 14, 0, [], [vE [120]]⟩ (vE [121])) (.slice A4 k4 c4))))
  have HY4 := Lib.hid (Bx.new ho (er_in hE (Nat.le_refl _)))
  clear ho hE hb HT HB3 HG3 HX3
  go_wp2_with fail
  refine (scan_fn [40, 97, 41, 41] (by decide) _ (HG4.out.al _).l).mono ?_
  rintro E w5 ⟨A5, c5, rfl, hT, hb⟩
  have HG5 := Lib.hid ((HG4.out.al _).up hb)
  have HT := Lib.hid hT
  have HB5 := Lib.hid (S3.after (HB4.out.alloc HB4.out.size _) hb)
  have HX5 := Lib.hid (HX4.out.up hb)
  have HY5 := Lib.hid (HY4.out.up hb)
  clear hT hb HX4 HY4 HG4 HB4
  go_wp2_with fail
  refine (parse_calls (i := 0) (d := 0) HT.out HG5.out.e (Nat.zero_le _) (by decide)).mono ?_
  rw [wf_c]
  rintro E w6 ⟨A6, k6, c6, rfl, ho, hE, hb⟩
  have HG6 := Lib.hid ((HG5.out.up hb).al (S3.eO (vE [97]) (.slice A6 k6 c6)))
  have HB6 := Lib.hid ((S3.after HB5.out hb).alloc (S3.after HB5.out hb).size (S3.eO (vE [97]) (.slice A6 k6 c6)))
  have HX6 := Lib.hid ((HX5.out.up hb).up (S3.bal w6 (S3.eO (vE [97]) (.slice A6 k6 c6))))
  have HY6 := Lib.hid ((HY5.out.up hb).up (S3.bal w6 (S3.eO (vE [97]) (.slice A6 k6 c6))))
  have HZ6 := Lib.hid (Bx.new ho (er_in hE (Nat.le_refl _)))
  clear ho hE hb HT HB5 HG5 HX5 HY5
  have HW := Lib.hid (show W3 w _ w2.heap.size w4.heap.size w6.heap.size _ _ _ from ⟨HB6.out, HG6.out, HX6.out, HY6.out, HZ6.out⟩)
  clear HB6 HG6 HX6 HY6 HZ6
  go_wp2_with (first
    | (refine wpList_makeMap_at _ rfl 83 rfl (fun W => Hid (W3 w W w2.heap.size w4.heap.size w6.heap.size (.slice A2 k2 c2) (.slice A4 k4 c4) (.slice A6 k6 c6))) HW ?_; clear HW; intro W HW; have hown := World.ownsMap_made W Tryz.prog 9 RI; have hbm := Lib.hid (S3.bal W (.map #[] 0)); go_frame)
    | (refine wpList_insert_own _ rfl (.tmp 46) (.const (.string ⟨#[]⟩)) (.const (.int .i64 0)) 83 rfl 9 3 law_s Tryz.underlying83 RI W.heap.size 0 _ rfl hown (by unfold maxLen; omega) (.string ⟨#[]⟩) (.int .i64 0) _ rfl rfl (WideMaps.keyOf_string_mk Tryz.underlying9 (by decide)) _ _ (plainElem_int Tryz.underlying3 (by decide)) ?_; clear hown; intro w9 hown hg; have hbm := Lib.hid (hbm.out.grown hg hbm.out.size (fun k e => by cases e; exact Nat.le_refl _)); clear hg; go_frame)
    | (refine wpList_insert_own _ rfl (.tmp 46) (.const (.string ⟨#[97, 32, 43]⟩)) (.const (.int .i64 2)) 83 rfl 9 3 law_s Tryz.underlying83 RI W.heap.size 1 _ rfl hown (by unfold maxLen; omega) (.string ⟨#[97, 32, 43]⟩) (.int .i64 2) _ rfl rfl (WideMaps.keyOf_string_mk Tryz.underlying9 (by decide)) _ _ (plainElem_int Tryz.underlying3 (by decide)) ?_; clear hown; intro w9 hown hg; have hbm := Lib.hid (hbm.out.grown hg hbm.out.size (fun k e => by cases e; exact Nat.le_refl _)); clear hg; go_frame)
    | (refine wpList_insert_own _ rfl (.tmp 46) (.const (.string ⟨#[40, 97]⟩)) (.const (.int .i64 2)) 83 rfl 9 3 law_s Tryz.underlying83 RI W.heap.size 2 _ rfl hown (by unfold maxLen; omega) (.string ⟨#[40, 97]⟩) (.int .i64 2) _ rfl rfl (WideMaps.keyOf_string_mk Tryz.underlying9 (by decide)) _ _ (plainElem_int Tryz.underlying3 (by decide)) ?_; clear hown; intro w9 hown hg; have hbm := Lib.hid (hbm.out.grown hg hbm.out.size (fun k e => by cases e; exact Nat.le_refl _)); clear hg; go_frame)
    | (refine wpList_insert_own _ rfl (.tmp 46) (.const (.string ⟨#[97, 91, 49]⟩)) (.const (.int .i64 3)) 83 rfl 9 3 law_s Tryz.underlying83 RI W.heap.size 3 _ rfl hown (by unfold maxLen; omega) (.string ⟨#[97, 91, 49]⟩) (.int .i64 3) _ rfl rfl (WideMaps.keyOf_string_mk Tryz.underlying9 (by decide)) _ _ (plainElem_int Tryz.underlying3 (by decide)) ?_; clear hown; intro w9 hown hg; have hbm := Lib.hid (hbm.out.grown hg hbm.out.size (fun k e => by cases e; exact Nat.le_refl _)); clear hg; go_frame)
    | (refine wpList_insert_own _ rfl (.tmp 46) (.const (.string ⟨#[108, 101, 110, 40, 49, 41]⟩)) (.const (.int .i64 2)) 83 rfl 9 3 law_s Tryz.underlying83 RI W.heap.size 4 _ rfl hown (by unfold maxLen; omega) (.string ⟨#[108, 101, 110, 40, 49, 41]⟩) (.int .i64 2) _ rfl rfl (WideMaps.keyOf_string_mk Tryz.underlying9 (by decide)) _ _ (plainElem_int Tryz.underlying3 (by decide)) ?_; clear hown; intro w9 hown hg; have hbm := Lib.hid (hbm.out.grown hg hbm.out.size (fun k e => by cases e; exact Nat.le_refl _)); clear hg; go_frame)
    | (refine wpList_insert_own _ rfl (.tmp 46) (.const (.string ⟨#[105, 110, 116]⟩)) (.const (.int .i64 0)) 83 rfl 9 3 law_s Tryz.underlying83 RI W.heap.size 5 _ rfl hown (by unfold maxLen; omega) (.string ⟨#[105, 110, 116]⟩) (.int .i64 0) _ rfl rfl (WideMaps.keyOf_string_mk Tryz.underlying9 (by decide)) _ _ (plainElem_int Tryz.underlying3 (by decide)) ?_; clear hown; intro w9 hown hg; have hbm := Lib.hid (hbm.out.grown hg hbm.out.size (fun k e => by cases e; exact Nat.le_refl _)); clear hg; go_frame)
    | (refine wpList_range_own _ rfl (.tmp 47) 83 rfl 9 3 law_s Tryz.underlying83 RI W.heap.size 6 _ rfl hown ?_; intro w0 hrg0 hg0 hs0))
  try go_frame
  change w0.ranges Tryz.prog 9 RI W.heap.size w9.heap.size 6 DM (has DM) (size DM) at hrg0
  have HB0 := Lib.hid (hbm.out.grown hg0 hbm.out.size (fun k e => by cases e))
  have h9 := hbm.out.size
  clear hown hbm hg0 hs0
  go_loopw [10] (fun _ wr => ∃ (left : Lit → Bool) (cnt : Nat), wr.ranges Tryz.prog 9 RI W.heap.size w9.heap.size 6 DM left cnt ∧ Hid (Below W.heap.size W wr)) (fun _ wr => wr.rangeLeft W.heap.size w9.heap.size)
  case atStart => exact ⟨_, _, hrg0, HB0⟩
  case round =>
    clear HB0 hrg0
    obtain ⟨left, cnt, hrg, HBr⟩ := hrel
    go_wp2_with (refine wpList_next_ranges _ rfl (.tmp 48) rfl 9 law_s RI Value.string (Value.int .i64) key_inv val_inv W.heap.size w9.heap.size 6 DM left cnt rfl hrg ?_ ?_)
    · intro hc0 hl0
      clear hrg hc0 hl0
      have HB := HBr
      clear HBr
      go_wp2_with fail
      refine (rep_calls _).mono ?_
      rintro E v0 ⟨rfl, hb⟩
      have HB := Lib.hid (S3.after HB.out hb)
      clear hb
      go_wp2_with fail
      refine (scan_fn rep41 (by decide) _ (HW.out.g.up HB.out).l).mono ?_
      rintro E v1 ⟨A1, c1, rfl, hT, hb⟩
      have HT := Lib.hid hT
      have HB := Lib.hid (S3.after HB.out hb)
      clear hT hb
      go_wp2_with fail
      refine (parse_calls (i := 0) (d := 0) HT.out (HW.out.g.up HB.out).e (Nat.zero_le _) (by decide)).mono ?_
      rw [show parseR (tlS rep41) 0 0 = .bad 40 8 from wf_d]
      rintro E v2 ⟨rfl, hb⟩
      have HB := Lib.hid (S3.after HB.out hb)
      have HB := Lib.hid (HB.out.alloc HB.out.size (S3.eO zE (.slice none 0 0)))
      clear hb HT
      go_wp2_with fail
      refine (scan_fn [40, 97, 44, 32, 49, 32, 43, 32, 50, 41] (by decide) _ (HW.out.g.up HB.out).l).mono ?_
      rintro E v3 ⟨A3, c3, rfl, hT, hb⟩
      have HT := Lib.hid hT
      have HB := Lib.hid (S3.after HB.out hb)
      clear hT hb
      go_wp2_with fail
      refine (list_calls (i := 0) (d := 0) HT.out (HW.out.g.up HB.out).e (Nat.zero_le _) (by decide) (Nat.le_trans (tlS_len _) (by decide))).mono ?_
      rw [wf_l]
      rintro E v4 ⟨A4l, c4l, rfl, hE, hb⟩
      have HB := Lib.hid (S3.after HB.out hb)
      have HL := Lib.hid (er_in hE (Nat.le_refl _))
      clear hb hE HT
      go_wp2_with fail
      refine (scan_fn [40, 97, 44, 41] (by decide) _ (HW.out.g.up HB.out).l).mono ?_
      rintro E v5 ⟨A5, c5, rfl, hT, hb⟩
      have HT := Lib.hid hT
      have HB := Lib.hid (S3.after HB.out hb)
      have HL := Lib.hid (HL.out.up hb)
      clear hT hb
      go_wp2_with fail
      refine (list_calls (i := 0) (d := 0) HT.out (HW.out.g.up HB.out).e (Nat.zero_le _) (by decide) (Nat.le_trans (tlS_len _) (by decide))).mono ?_
      rw [wf_m]
      rintro E v6 ⟨rfl, hb⟩
      have HB := Lib.hid (S3.after HB.out hb)
      have HL := Lib.hid (HL.out.up hb)
      clear hb HT
      go_wp2_with fail
      refine (op_calls [42] _ (HW.out.g.up HB.out).e.o).mono ?_
      rw [wf_o]
      rintro E v7 ⟨rfl, hb⟩
      have HB := Lib.hid (S3.after HB.out hb)
      have HL := Lib.hid (HL.out.up hb)
      clear hb
      go_wp2_with fail
      refine (variable_calls [97] _).mono ?_
      rintro E v8 ⟨rfl, hb⟩
      have HB := Lib.hid (S3.after HB.out hb)
      have HL := Lib.hid (HL.out.up hb)
      clear hb
      go_wp2_with fail
      refine (variable_calls [98] _).mono ?_
      rintro E v9 ⟨rfl, hb⟩
      have HB := Lib.hid (S3.after HB.out hb)
      have HL := Lib.hid (HL.out.up hb)
      clear hb
      go_wp2_with fail
      refine (pair_calls 2 (vE [97]) (vE [98]) (ok_v _ (by decide)) (ok_v _ (by decide)) (.slice none 0 0) (.slice none 0 0) _ (ein_nil _) (ein_nil _)).mono ?_
      rintro E v10 ⟨B1, d1, rfl, hb, hE⟩
      have HP := Lib.hid hE
      have HB := Lib.hid (S3.after HB.out hb)
      have HL := Lib.hid (HL.out.up hb)
      clear hb hE
      go_wp2_with fail
      refine (variable_calls [99] _).mono ?_
      rintro E v11 ⟨rfl, hb⟩
      have HB := Lib.hid (S3.after HB.out hb)
      have HL := Lib.hid (HL.out.up hb)
      have HP := Lib.hid (HP.out.up hb)
      clear hb
      go_wp2_with fail
      refine (variable_calls [100] _).mono ?_
      rintro E v12 ⟨rfl, hb⟩
      have HB := Lib.hid (S3.after HB.out hb)
      have HL := Lib.hid (HL.out.up hb)
      have HP := Lib.hid (HP.out.up hb)
      clear hb
      go_wp2_with fail
      refine (pair_calls 3 (vE [99]) (vE [100]) (ok_v _ (by decide)) (ok_v _ (by decide)) (.slice none 0 0) (.slice none 0 0) _ (ein_nil _) (ein_nil _)).mono ?_
      rintro E v13 ⟨B2, d2, rfl, hb, hE⟩
      have HP2 := Lib.hid hE
      have HB := Lib.hid (S3.after HB.out hb)
      have HL := Lib.hid (HL.out.up hb)
      have HP := Lib.hid (HP.out.up hb)
      clear hb hE
      go_wp2_with fail
      refine (pair_calls 2 (pE 2 (vE [97]) (vE [98])) (pE 3 (vE [99]) (vE [100])) (ok_p _ _ _ (by decide)) (ok_p _ _ _ (by decide)) (.slice B1 2 d1) (.slice B2 2 d2) _ HP.out HP2.out).mono ?_
      rintro E v14 ⟨B3, d3, rfl, hb, hE⟩
      have HB := Lib.hid (S3.after HB.out hb)
      have HL := Lib.hid ((HL.out.up hb).al (S3.eO (pE 2 (pE 2 (vE [97]) (vE [98])) (pE 3 (vE [99]) (vE [100]))) (.slice B3 2 d3)))
      have HW4 := Lib.hid (Bx.new (ok_p 2 (pE 2 (vE [97]) (vE [98])) (pE 3 (vE [99]) (vE [100])) (by decide)) hE)
      have HB := Lib.hid (HB.out.alloc HB.out.size (S3.eO (pE 2 (pE 2 (vE [97]) (vE [98])) (pE 3 (vE [99]) (vE [100]))) (.slice B3 2 d3)))
      clear hb hE HP HP2
      go_wp2_with fail
      refine (variable_calls [120] _).mono ?_
      rintro E v15 ⟨rfl, hb⟩
      have HB := Lib.hid (S3.after HB.out hb)
      have HL := Lib.hid ((HL.out.up hb).al (.cells (S3.eC (vE [120]) (.slice none 0 0)).toArray 32))
      have HW5 := Lib.hid ((HW4.out.up hb).up (S3.bal v15 (.cells (S3.eC (vE [120]) (.slice none 0 0)).toArray 32)))
      have HU := Lib.hid (ein_one (w := v15) (c := 1) (ok_v [120] (by decide)) (ein_nil _) 32 _ rfl)
      have HB := Lib.hid (HB.out.alloc HB.out.size (.cells (S3.eC (vE [120]) (.slice none 0 0)).toArray 32))
      clear hb HW4
      go_wp2_with fail
      refine (variable_calls [121] _).mono ?_
      rintro E v16 ⟨rfl, hb⟩
      have HB := Lib.hid (S3.after HB.out hb)
      have HL := Lib.hid (HL.out.up hb)
      have HW6 := Lib.hid (HW5.out.up hb)
      have HU := Lib.hid (HU.out.up hb)
      clear hb HW5
      go_wp2_with fail
      refine (pair_calls 3 ⟨4, 14, 0, [], [vE [120]]⟩ (vE [121]) ok_m (ok_v _ (by decide)) (.slice (some ⟨v15.heap.size, 0, none⟩) 1 1) (.slice none 0 0) _ HU.out (ein_nil _)).mono ?_
      rintro E v17 ⟨B4, d4, rfl, hb, hE⟩
      have HB := Lib.hid (S3.after HB.out hb)
      have HL := Lib.hid ((HL.out.up hb).al (S3.eO (pE 3 ⟨4, 14, 0, [], [vE [120]]⟩ (vE [121])) (.slice B4 2 d4)))
      have HW7 := Lib.hid ((HW6.out.up hb).up (S3.bal v17 (S3.eO (pE 3 ⟨4, 14, 0, [], [vE [120]]⟩ (vE [121])) (.slice B4 2 d4))))
      have HV7 := Lib.hid (Bx.new (ok_p 3 ⟨4, 14, 0, [], [vE [120]]⟩ (vE [121]) (by decide)) hE)
      have HB := Lib.hid (HB.out.alloc HB.out.size (S3.eO (pE 3 ⟨4, 14, 0, [], [vE [120]]⟩ (vE [121])) (.slice B4 2 d4)))
      clear hb hE HU HW6
      go_wp2_with fail
      obtain ⟨bl, ol, vl, rfl, hlt, _, hlc, hla⟩ := HL.out.at_.2 1 (by decide)
      obtain ⟨SS, hS0, hUp, hGet⟩ : ∃ SS : World → Prop, Hid (SS (v17.alloc (S3.eO (pE 3 ⟨4, 14, 0, [], [vE [120]]⟩ (vE [121])) (.slice B4 2 d4))).drew) ∧ (∀ W1 W2, Hid (SS W1) → Below W1.heap.size W1 W2 → Hid (SS W2)) ∧ (∀ W1, Hid (SS W1) → Hid (Fin5 w W1 w2.heap.size w4.heap.size w6.heap.size v14.heap.size v17.heap.size bl ol (.slice A2 k2 c2) (.slice A4 k4 c4) (.slice A6 k6 c6) (.slice B3 2 d3) (.slice B4 2 d4) vl)) :=
        ⟨fun W1 => Fin5 w W1 w2.heap.size w4.heap.size w6.heap.size v14.heap.size v17.heap.size bl ol (.slice A2 k2 c2) (.slice A4 k4 c4) (.slice A6 k6 c6) (.slice B3 2 d3) (.slice B4 2 d4) vl,
          Lib.hid (Fin5.up ⟨S3.after HW.out.hb HB.out, HW.out.g.up HB.out, HW.out.a.up HB.out, HW.out.b.up HB.out, HW.out.c.up HB.out, HW7.out, HV7.out, hlc, hlt, hla⟩ (drew_below _)), fun _ _ h hb => Lib.hid (h.out.up hb), fun _ h => Lib.hid h.out⟩
      clear hlc hla hlt HL HW7 HV7 HB HW
      have qa0 := fun W1 (h : Hid (SS W1)) => (hGet W1 h).out.a.x.c0
      have qa1 := fun W1 (h : Hid (SS W1)) => (hGet W1 h).out.a.x.c1
      have qa2 := fun W1 (h : Hid (SS W1)) => (hGet W1 h).out.a.x.c2
      have qa3 := fun W1 (h : Hid (SS W1)) => (hGet W1 h).out.a.x.c3
      have qa4 := fun W1 (h : Hid (SS W1)) => (hGet W1 h).out.a.x.c4
      have qb0 := fun W1 (h : Hid (SS W1)) => (hGet W1 h).out.b.x.c0
      have qb1 := fun W1 (h : Hid (SS W1)) => (hGet W1 h).out.b.x.c1
      have qb2 := fun W1 (h : Hid (SS W1)) => (hGet W1 h).out.b.x.c2
      have qb3 := fun W1 (h : Hid (SS W1)) => (hGet W1 h).out.b.x.c3
      have qb4 := fun W1 (h : Hid (SS W1)) => (hGet W1 h).out.b.x.c4
      have qc0 := fun W1 (h : Hid (SS W1)) => (hGet W1 h).out.c.x.c0
      have qc1 := fun W1 (h : Hid (SS W1)) => (hGet W1 h).out.c.x.c1
      have qc2 := fun W1 (h : Hid (SS W1)) => (hGet W1 h).out.c.x.c2
      have qc3 := fun W1 (h : Hid (SS W1)) => (hGet W1 h).out.c.x.c3
      have qc4 := fun W1 (h : Hid (SS W1)) => (hGet W1 h).out.c.x.c4
      have qd0 := fun W1 (h : Hid (SS W1)) => (hGet W1 h).out.d.x.c0
      have qd1 := fun W1 (h : Hid (SS W1)) => (hGet W1 h).out.d.x.c1
      have qd2 := fun W1 (h : Hid (SS W1)) => (hGet W1 h).out.d.x.c2
      have qd3 := fun W1 (h : Hid (SS W1)) => (hGet W1 h).out.d.x.c3
      have qd4 := fun W1 (h : Hid (SS W1)) => (hGet W1 h).out.d.x.c4
      have qe0 := fun W1 (h : Hid (SS W1)) => (hGet W1 h).out.e.x.c0
      have qe1 := fun W1 (h : Hid (SS W1)) => (hGet W1 h).out.e.x.c1
      have qe2 := fun W1 (h : Hid (SS W1)) => (hGet W1 h).out.e.x.c2
      have qe3 := fun W1 (h : Hid (SS W1)) => (hGet W1 h).out.e.x.c3
      have qe4 := fun W1 (h : Hid (SS W1)) => (hGet W1 h).out.e.x.c4
      have ql0 := fun W1 (h : Hid (SS W1)) => (hGet W1 h).out.l.c0
      have ql1 := fun W1 (h : Hid (SS W1)) => (hGet W1 h).out.l.c1
      have ql2 := fun W1 (h : Hid (SS W1)) => (hGet W1 h).out.l.c2
      have ql3 := fun W1 (h : Hid (SS W1)) => (hGet W1 h).out.l.c3
      have ql4 := fun W1 (h : Hid (SS W1)) => (hGet W1 h).out.l.c4
      have KE := Lib.hid (show ∀ W1, Hid (SS W1) → Below w.heap.size w W1 from fun W1 h => (hGet W1 h).out.hb)
      have K1 := Lib.hid (show ∀ W1, Hid (SS W1) → Calls Tryz.prog 27 #[.agg #[.int .i64 xA.kind, .int .i64 xA.op, .int .i64 xA.num, .string (S3.B xA.name), .slice A2 k2 c2], .agg #[.int .i64 xA.kind, .int .i64 xA.op, .int .i64 xA.num, .string (S3.B xA.name), .slice B3 2 d3]] W1 (fun r w' => r = .returned (.bool true) ∧ Below W1.heap.size W1 w') from
        fun W1 h => same_true xA (ok_p _ _ _ (by decide)) xA_x _ _ _ (hGet _ h).out.a.a (hGet _ h).out.d.a (hGet _ h).out.g.e.s)
      have K2 := Lib.hid (show ∀ W1, Hid (SS W1) → Calls Tryz.prog 27 #[.agg #[.int .i64 xB.kind, .int .i64 xB.op, .int .i64 xB.num, .string (S3.B xB.name), .slice A4 k4 c4], .agg #[.int .i64 xB.kind, .int .i64 xB.op, .int .i64 xB.num, .string (S3.B xB.name), .slice B4 2 d4]] W1 (fun r w' => r = .returned (.bool true) ∧ Below W1.heap.size W1 w') from
        fun W1 h => same_true xB (ok_p _ _ _ (by decide)) xB_x _ _ _ (hGet _ h).out.b.a (hGet _ h).out.e.a (hGet _ h).out.g.e.s)
      have K3 := Lib.hid (show ∀ W1, Hid (SS W1) → Calls Tryz.prog 27 #[.agg #[.int .i64 (vE [97]).kind, .int .i64 (vE [97]).op, .int .i64 (vE [97]).num, .string (S3.B (vE [97]).name), .slice A6 k6 c6], .agg #[.int .i64 (vE [97]).kind, .int .i64 (vE [97]).op, .int .i64 (vE [97]).num, .string (S3.B (vE [97]).name), .slice none 0 0]] W1 (fun r w' => r = .returned (.bool true) ∧ Below W1.heap.size W1 w') from
        fun W1 h => same_true (vE [97]) (ok_v _ (by decide)) xV_x _ _ _ (hGet _ h).out.c.a (ein_nil _) (hGet _ h).out.g.e.s)
      have K4 := Lib.hid (show ∀ W1 B5 d5, Hid (SS W1) → S3.EIn W1 W1.heap.size [nE 1, nE 2] (.slice B5 2 d5) → Calls Tryz.prog 27 #[.agg #[.int .i64 xL.kind, .int .i64 xL.op, .int .i64 xL.num, .string (S3.B xL.name), vl], .agg #[.int .i64 xL.kind, .int .i64 xL.op, .int .i64 xL.num, .string (S3.B xL.name), .slice B5 2 d5]] W1 (fun r w' => r = .returned (.bool true) ∧ Below W1.heap.size W1 w') from
        fun W1 B5 d5 h h5 => same_true xL (ok_p _ _ _ (by decide)) xL_x _ _ _ (hGet _ h).out.la h5 (hGet _ h).out.g.e.s)
      have K5 := Lib.hid (show ∀ W1, Hid (SS W1) → Calls Tryz.prog 18 #[.int .i64 9] W1 (fun e w' => e = .returned (.string ⟨#[60, 61]⟩) ∧ Below W1.heap.size W1 w') from fun W1 h => sign9 W1 (hGet _ h).out.g.e.o)
      have K6 := Lib.hid (show ∀ W1, Hid (SS W1) → Calls Tryz.prog 18 #[.int .i64 16] W1 (fun e w' => e = .returned (.string ⟨#[]⟩) ∧ Below W1.heap.size W1 w') from fun W1 h => sign16 W1 (hGet _ h).out.g.e.o)
      change Code.wp _ _ _ _ (v17.alloc (S3.eO (pE 3 ⟨4, 14, 0, [], [vE [120]]⟩ (vE [121])) (.slice B4 2 d4)))
      clear hGet HG
      generalize v17.alloc (S3.eO (pE 3 ⟨4, 14, 0, [], [vE [120]]⟩ (vE [121])) (.slice B4 2 d4)) = W0 at *
      refine wp_region_noPanic ?_
      refine wp_region_held_drew (S := fun W1 => Hid (SS W1)) (by kernel_rfl) hS0 (fun hHeld => ?_)
      clear hS0
      refine wpAnyH_take (i := 0) (oi := { dst := some 103, op := Go.Op.load 32 (Go.Operand.tmp 1), type := 32, pos := "law.go:47", after := #[], guard := none }) (v := ?_) rfl (by as_aux_lemma => kernel_rfl) (by as_aux_lemma => kernel_rfl) (by as_aux_lemma => kernel_rfl) (fun _ _ _ h => h) (Or.inl ⟨by rfl, ?_⟩) hHeld ?_
      rotate_left
      · (intro w hSw; (try dsimp only at hSw); go_simp; try with_reducible rfl)
      try simp only [Act.put, List.setIfInBounds_toArray, List.set_cons_zero, List.set_cons_succ]
      refine wpAnyH_ready (rs := [1]) (by as_aux_lemma => kernel_rfl) (List.cons_ne_nil _ _) ?_
      refine AllReadyH.cons (o := { dst := some 104, op := Go.Op.load 32 (Go.Operand.tmp 26), type := 32, pos := "law.go:47", after := #[], guard := none }) rfl (fun K hK => ?_) AllReadyH.nil
      go_simp
      refine hK.out _ _ hHeld (fun _ => ?_)
      clear hK K
      try simp only [Act.put, List.setIfInBounds_toArray, List.set_cons_zero, List.set_cons_succ]
      refine wpAnyH_ready (rs := [2]) (by as_aux_lemma => kernel_rfl) (List.cons_ne_nil _ _) ?_
      refine AllReadyH.cons (o := { dst := some 105, op := Go.Op.call { callee := Go.Callee.value (Go.Operand.func 27), args := #[Go.Operand.tmp 103, Go.Operand.tmp 104], argTypes := #[32, 32] }, type := 4, pos := "law.go:47", after := #[{ on := 0, ground := Go.Ground.data }, { on := 1, ground := Go.Ground.data }], guard := none }) rfl (fun K hK => ?_) AllReadyH.nil
      go_simp
      refine (K1.out _ hHeld).mono ?_
      rintro e W' ⟨rfl, hb⟩
      go_wp2_with fail
      refine hK.out _ _ (hUp _ _ hHeld hb) (fun hHeld2 => ?_)
      clear hK K hb hHeld
      have hHeld := hHeld2
      clear hHeld2
      try simp only [Act.put, List.setIfInBounds_toArray, List.set_cons_zero, List.set_cons_succ]
      refine wpAnyH_ready (rs := [3]) (by as_aux_lemma => kernel_rfl) (List.cons_ne_nil _ _) ?_
      refine AllReadyH.cons (o := { dst := some 106, op := Go.Op.move (Go.Operand.tmp 105), type := 4, pos := "law.go:47", after := #[{ on := 2, ground := Go.Ground.data }, { on := 2, ground := Go.Ground.chain }], guard := none }) rfl (fun K hK => ?_) AllReadyH.nil
      go_simp
      refine hK.out _ _ hHeld (fun _ => ?_)
      clear hK K
      try simp only [Act.put, List.setIfInBounds_toArray, List.set_cons_zero, List.set_cons_succ]
      refine wpAnyH_ready (rs := [4]) (by as_aux_lemma => kernel_rfl) (List.cons_ne_nil _ _) ?_
      refine AllReadyH.cons (o := { dst := some 107, op := Go.Op.move (Go.Operand.tmp 2), type := 3, pos := "law.go:47", after := #[{ on := 3, ground := Go.Ground.guard }], guard := some (3, true) }) rfl (fun K hK => ?_) AllReadyH.nil
      go_simp
      refine hK.out _ _ hHeld (fun _ => ?_)
      clear hK K
      try simp only [Act.put, List.setIfInBounds_toArray, List.set_cons_zero, List.set_cons_succ]
      refine wpAnyH_ready (rs := [5]) (by as_aux_lemma => kernel_rfl) (List.cons_ne_nil _ _) ?_
      refine AllReadyH.cons (o := { dst := some 108, op := Go.Op.binOp Go.BinOp.eql 3 (Go.Operand.tmp 107) (Go.Operand.const (Go.Value.int Go.IntKind.i64 7)) 3, type := 4, pos := "law.go:47", after := #[{ on := 4, ground := Go.Ground.data }, { on := 3, ground := Go.Ground.guard }], guard := some (3, true) }) rfl (fun K hK => ?_) AllReadyH.nil
      go_simp
      refine hK.out _ _ hHeld (fun _ => ?_)
      clear hK K
      try simp only [Act.put, List.setIfInBounds_toArray, List.set_cons_zero, List.set_cons_succ]
      refine wpAnyH_ready (rs := [6]) (by as_aux_lemma => kernel_rfl) (List.cons_ne_nil _ _) ?_
      refine AllReadyH.cons (o := { dst := some 109, op := Go.Op.pick (Go.Operand.tmp 106) (Go.Operand.tmp 108) (Go.Operand.const (Go.Value.bool false)), type := 4, pos := "law.go:47", after := #[{ on := 3, ground := Go.Ground.data }, { on := 5, ground := Go.Ground.data }], guard := none }) rfl (fun K hK => ?_) AllReadyH.nil
      go_simp
      refine hK.out _ _ hHeld (fun _ => ?_)
      clear hK K
      try simp only [Act.put, List.setIfInBounds_toArray, List.set_cons_zero, List.set_cons_succ]
      refine wpAnyH_ready (rs := [7]) (by as_aux_lemma => kernel_rfl) (List.cons_ne_nil _ _) ?_
      refine AllReadyH.cons (o := { dst := some 110, op := Go.Op.move (Go.Operand.tmp 109), type := 4, pos := "law.go:47", after := #[{ on := 6, ground := Go.Ground.data }, { on := 3, ground := Go.Ground.chain }], guard := none }) rfl (fun K hK => ?_) AllReadyH.nil
      go_simp
      refine hK.out _ _ hHeld (fun _ => ?_)
      clear hK K
      try simp only [Act.put, List.setIfInBounds_toArray, List.set_cons_zero, List.set_cons_succ]
      refine wpAnyH_ready (rs := [8]) (by as_aux_lemma => kernel_rfl) (List.cons_ne_nil _ _) ?_
      refine AllReadyH.cons (o := { dst := some 111, op := Go.Op.move (Go.Operand.tmp 3), type := 39, pos := "law.go:47", after := #[{ on := 7, ground := Go.Ground.guard }], guard := some (7, true) }) rfl (fun K hK => ?_) AllReadyH.nil
      go_simp
      refine hK.out _ _ hHeld (fun _ => ?_)
      clear hK K
      try simp only [Act.put, List.setIfInBounds_toArray, List.set_cons_zero, List.set_cons_succ]
      refine wpAnyH_ready (rs := [9]) (by as_aux_lemma => kernel_rfl) (List.cons_ne_nil _ _) ?_
      refine AllReadyH.cons (o := { dst := some 112, op := Go.Op.binOp Go.BinOp.eql 39 (Go.Operand.tmp 111) (Go.Operand.const (Go.Value.int Go.IntKind.i64 0)) 39, type := 4, pos := "law.go:47", after := #[{ on := 8, ground := Go.Ground.data }, { on := 7, ground := Go.Ground.guard }], guard := some (7, true) }) rfl (fun K hK => ?_) AllReadyH.nil
      go_simp
      refine hK.out _ _ hHeld (fun _ => ?_)
      clear hK K
      try simp only [Act.put, List.setIfInBounds_toArray, List.set_cons_zero, List.set_cons_succ]
      refine wpAnyH_ready (rs := [10]) (by as_aux_lemma => kernel_rfl) (List.cons_ne_nil _ _) ?_
      refine AllReadyH.cons (o := { dst := some 113, op := Go.Op.pick (Go.Operand.tmp 110) (Go.Operand.tmp 112) (Go.Operand.const (Go.Value.bool false)), type := 4, pos := "law.go:47", after := #[{ on := 7, ground := Go.Ground.data }, { on := 9, ground := Go.Ground.data }], guard := none }) rfl (fun K hK => ?_) AllReadyH.nil
      go_simp
      refine hK.out _ _ hHeld (fun _ => ?_)
      clear hK K
      try simp only [Act.put, List.setIfInBounds_toArray, List.set_cons_zero, List.set_cons_succ]
      refine wpAnyH_ready (rs := [11]) (by as_aux_lemma => kernel_rfl) (List.cons_ne_nil _ _) ?_
      refine AllReadyH.cons (o := { dst := some 114, op := Go.Op.move (Go.Operand.tmp 113), type := 4, pos := "law.go:47", after := #[{ on := 10, ground := Go.Ground.data }, { on := 7, ground := Go.Ground.chain }], guard := none }) rfl (fun K hK => ?_) AllReadyH.nil
      go_simp
      refine hK.out _ _ hHeld (fun _ => ?_)
      clear hK K
      try simp only [Act.put, List.setIfInBounds_toArray, List.set_cons_zero, List.set_cons_succ]
      refine wpAnyH_take (i := 12) (oi := { dst := some 115, op := Go.Op.load 32 (Go.Operand.tmp 4), type := 32, pos := "law.go:47", after := #[{ on := 11, ground := Go.Ground.guard }], guard := some (11, true) }) (v := ?_) rfl (by as_aux_lemma => kernel_rfl) (by as_aux_lemma => kernel_rfl) (by as_aux_lemma => kernel_rfl) (fun _ _ _ h => h) (Or.inl ⟨by rfl, ?_⟩) hHeld ?_
      rotate_left
      · (intro w hSw; (try dsimp only at hSw); go_simp; try with_reducible rfl)
      try simp only [Act.put, List.setIfInBounds_toArray, List.set_cons_zero, List.set_cons_succ]
      refine wpAnyH_ready (rs := [13]) (by as_aux_lemma => kernel_rfl) (List.cons_ne_nil _ _) ?_
      refine AllReadyH.cons (o := { dst := some 116, op := Go.Op.load 32 (Go.Operand.tmp 27), type := 32, pos := "law.go:47", after := #[{ on := 11, ground := Go.Ground.guard }], guard := some (11, true) }) rfl (fun K hK => ?_) AllReadyH.nil
      go_simp
      refine hK.out _ _ hHeld (fun _ => ?_)
      clear hK K
      try simp only [Act.put, List.setIfInBounds_toArray, List.set_cons_zero, List.set_cons_succ]
      refine wpAnyH_ready (rs := [14]) (by as_aux_lemma => kernel_rfl) (List.cons_ne_nil _ _) ?_
      refine AllReadyH.cons (o := { dst := some 117, op := Go.Op.call { callee := Go.Callee.value (Go.Operand.func 27), args := #[Go.Operand.tmp 115, Go.Operand.tmp 116], argTypes := #[32, 32] }, type := 4, pos := "law.go:47", after := #[{ on := 12, ground := Go.Ground.data }, { on := 13, ground := Go.Ground.data }, { on := 11, ground := Go.Ground.chain }, { on := 11, ground := Go.Ground.guard }], guard := some (11, true) }) rfl (fun K hK => ?_) AllReadyH.nil
      go_simp
      refine (K2.out _ hHeld).mono ?_
      rintro e W' ⟨rfl, hb⟩
      go_wp2_with fail
      refine hK.out _ _ (hUp _ _ hHeld hb) (fun hHeld2 => ?_)
      clear hK K hb hHeld
      have hHeld := hHeld2
      clear hHeld2
      try simp only [Act.put, List.setIfInBounds_toArray, List.set_cons_zero, List.set_cons_succ]
      refine wpAnyH_ready (rs := [15]) (by as_aux_lemma => kernel_rfl) (List.cons_ne_nil _ _) ?_
      refine AllReadyH.cons (o := { dst := some 118, op := Go.Op.pick (Go.Operand.tmp 114) (Go.Operand.tmp 117) (Go.Operand.const (Go.Value.bool false)), type := 4, pos := "law.go:47", after := #[{ on := 11, ground := Go.Ground.data }, { on := 14, ground := Go.Ground.data }], guard := none }) rfl (fun K hK => ?_) AllReadyH.nil
      go_simp
      refine hK.out _ _ hHeld (fun _ => ?_)
      clear hK K
      try simp only [Act.put, List.setIfInBounds_toArray, List.set_cons_zero, List.set_cons_succ]
      refine wpAnyH_ready (rs := [16]) (by as_aux_lemma => kernel_rfl) (List.cons_ne_nil _ _) ?_
      refine AllReadyH.cons (o := { dst := some 119, op := Go.Op.move (Go.Operand.tmp 118), type := 4, pos := "law.go:47", after := #[{ on := 15, ground := Go.Ground.data }, { on := 14, ground := Go.Ground.chain }], guard := none }) rfl (fun K hK => ?_) AllReadyH.nil
      go_simp
      refine hK.out _ _ hHeld (fun _ => ?_)
      clear hK K
      try simp only [Act.put, List.setIfInBounds_toArray, List.set_cons_zero, List.set_cons_succ]
      refine wpAnyH_ready (rs := [17]) (by as_aux_lemma => kernel_rfl) (List.cons_ne_nil _ _) ?_
      refine AllReadyH.cons (o := { dst := some 120, op := Go.Op.move (Go.Operand.tmp 5), type := 3, pos := "law.go:47", after := #[{ on := 16, ground := Go.Ground.guard }], guard := some (16, true) }) rfl (fun K hK => ?_) AllReadyH.nil
      go_simp
      refine hK.out _ _ hHeld (fun _ => ?_)
      clear hK K
      try simp only [Act.put, List.setIfInBounds_toArray, List.set_cons_zero, List.set_cons_succ]
      refine wpAnyH_ready (rs := [18]) (by as_aux_lemma => kernel_rfl) (List.cons_ne_nil _ _) ?_
      refine AllReadyH.cons (o := { dst := some 121, op := Go.Op.binOp Go.BinOp.eql 3 (Go.Operand.tmp 120) (Go.Operand.const (Go.Value.int Go.IntKind.i64 4)) 3, type := 4, pos := "law.go:47", after := #[{ on := 17, ground := Go.Ground.data }, { on := 16, ground := Go.Ground.guard }], guard := some (16, true) }) rfl (fun K hK => ?_) AllReadyH.nil
      go_simp
      refine hK.out _ _ hHeld (fun _ => ?_)
      clear hK K
      try simp only [Act.put, List.setIfInBounds_toArray, List.set_cons_zero, List.set_cons_succ]
      refine wpAnyH_ready (rs := [19]) (by as_aux_lemma => kernel_rfl) (List.cons_ne_nil _ _) ?_
      refine AllReadyH.cons (o := { dst := some 122, op := Go.Op.pick (Go.Operand.tmp 119) (Go.Operand.tmp 121) (Go.Operand.const (Go.Value.bool false)), type := 4, pos := "law.go:47", after := #[{ on := 16, ground := Go.Ground.data }, { on := 18, ground := Go.Ground.data }], guard := none }) rfl (fun K hK => ?_) AllReadyH.nil
      go_simp
      refine hK.out _ _ hHeld (fun _ => ?_)
      clear hK K
      try simp only [Act.put, List.setIfInBounds_toArray, List.set_cons_zero, List.set_cons_succ]
      refine wpAnyH_ready (rs := [20]) (by as_aux_lemma => kernel_rfl) (List.cons_ne_nil _ _) ?_
      refine AllReadyH.cons (o := { dst := some 123, op := Go.Op.move (Go.Operand.tmp 122), type := 4, pos := "law.go:47", after := #[{ on := 19, ground := Go.Ground.data }, { on := 16, ground := Go.Ground.chain }], guard := none }) rfl (fun K hK => ?_) AllReadyH.nil
      go_simp
      refine hK.out _ _ hHeld (fun _ => ?_)
      clear hK K
      try simp only [Act.put, List.setIfInBounds_toArray, List.set_cons_zero, List.set_cons_succ]
      refine wpAnyH_ready (rs := [21]) (by as_aux_lemma => kernel_rfl) (List.cons_ne_nil _ _) ?_
      refine AllReadyH.cons (o := { dst := some 124, op := Go.Op.move (Go.Operand.tmp 6), type := 39, pos := "law.go:47", after := #[{ on := 20, ground := Go.Ground.guard }], guard := some (20, true) }) rfl (fun K hK => ?_) AllReadyH.nil
      go_simp
      refine hK.out _ _ hHeld (fun _ => ?_)
      clear hK K
      try simp only [Act.put, List.setIfInBounds_toArray, List.set_cons_zero, List.set_cons_succ]
      refine wpAnyH_ready (rs := [22]) (by as_aux_lemma => kernel_rfl) (List.cons_ne_nil _ _) ?_
      refine AllReadyH.cons (o := { dst := some 125, op := Go.Op.binOp Go.BinOp.eql 39 (Go.Operand.tmp 124) (Go.Operand.const (Go.Value.int Go.IntKind.i64 0)) 39, type := 4, pos := "law.go:47", after := #[{ on := 21, ground := Go.Ground.data }, { on := 20, ground := Go.Ground.guard }], guard := some (20, true) }) rfl (fun K hK => ?_) AllReadyH.nil
      go_simp
      refine hK.out _ _ hHeld (fun _ => ?_)
      clear hK K
      try simp only [Act.put, List.setIfInBounds_toArray, List.set_cons_zero, List.set_cons_succ]
      refine wpAnyH_ready (rs := [23]) (by as_aux_lemma => kernel_rfl) (List.cons_ne_nil _ _) ?_
      refine AllReadyH.cons (o := { dst := some 126, op := Go.Op.pick (Go.Operand.tmp 123) (Go.Operand.tmp 125) (Go.Operand.const (Go.Value.bool false)), type := 4, pos := "law.go:47", after := #[{ on := 20, ground := Go.Ground.data }, { on := 22, ground := Go.Ground.data }], guard := none }) rfl (fun K hK => ?_) AllReadyH.nil
      go_simp
      refine hK.out _ _ hHeld (fun _ => ?_)
      clear hK K
      try simp only [Act.put, List.setIfInBounds_toArray, List.set_cons_zero, List.set_cons_succ]
      refine wpAnyH_ready (rs := [24]) (by as_aux_lemma => kernel_rfl) (List.cons_ne_nil _ _) ?_
      refine AllReadyH.cons (o := { dst := some 127, op := Go.Op.move (Go.Operand.tmp 126), type := 4, pos := "law.go:47", after := #[{ on := 23, ground := Go.Ground.data }, { on := 20, ground := Go.Ground.chain }], guard := none }) rfl (fun K hK => ?_) AllReadyH.nil
      go_simp
      refine hK.out _ _ hHeld (fun _ => ?_)
      clear hK K
      try simp only [Act.put, List.setIfInBounds_toArray, List.set_cons_zero, List.set_cons_succ]
      refine wpAnyH_take (i := 25) (oi := { dst := some 128, op := Go.Op.load 32 (Go.Operand.tmp 7), type := 32, pos := "law.go:47", after := #[{ on := 24, ground := Go.Ground.guard }], guard := some (24, true) }) (v := ?_) rfl (by as_aux_lemma => kernel_rfl) (by as_aux_lemma => kernel_rfl) (by as_aux_lemma => kernel_rfl) (fun _ _ _ h => h) (Or.inl ⟨by rfl, ?_⟩) hHeld ?_
      rotate_left
      · (intro w hSw; (try dsimp only at hSw); go_simp; try with_reducible rfl)
      try simp only [Act.put, List.setIfInBounds_toArray, List.set_cons_zero, List.set_cons_succ]
      refine wpAnyH_ready (rs := [26]) (by as_aux_lemma => kernel_rfl) (List.cons_ne_nil _ _) ?_
      refine AllReadyH.cons (o := { dst := some 129, op := Go.Op.call { callee := Go.Callee.value (Go.Operand.func 51), args := #[Go.Operand.const (Go.Value.string { data := #[97] })], argTypes := #[9] }, type := 32, pos := "law.go:47", after := #[{ on := 24, ground := Go.Ground.chain }, { on := 24, ground := Go.Ground.guard }], guard := some (24, true) }) rfl (fun K hK => ?_) AllReadyH.nil
      go_simp
      refine (variable_calls [97] _).mono ?_
      rintro e W' ⟨rfl, hb⟩
      go_wp2_with fail
      refine hK.out _ _ (hUp _ _ hHeld hb) (fun hHeld2 => ?_)
      clear hK K hb hHeld
      have hHeld := hHeld2
      clear hHeld2
      try simp only [Act.put, List.setIfInBounds_toArray, List.set_cons_zero, List.set_cons_succ]
      refine wpAnyH_ready (rs := [27]) (by as_aux_lemma => kernel_rfl) (List.cons_ne_nil _ _) ?_
      refine AllReadyH.cons (o := { dst := some 130, op := Go.Op.call { callee := Go.Callee.value (Go.Operand.func 27), args := #[Go.Operand.tmp 128, Go.Operand.tmp 129], argTypes := #[32, 32] }, type := 4, pos := "law.go:47", after := #[{ on := 25, ground := Go.Ground.data }, { on := 26, ground := Go.Ground.data }, { on := 26, ground := Go.Ground.chain }, { on := 24, ground := Go.Ground.guard }], guard := some (24, true) }) rfl (fun K hK => ?_) AllReadyH.nil
      go_simp
      refine (K3.out _ hHeld).mono ?_
      rintro e W' ⟨rfl, hb⟩
      go_wp2_with fail
      refine hK.out _ _ (hUp _ _ hHeld hb) (fun hHeld2 => ?_)
      clear hK K hb hHeld
      have hHeld := hHeld2
      clear hHeld2
      try simp only [Act.put, List.setIfInBounds_toArray, List.set_cons_zero, List.set_cons_succ]
      refine wpAnyH_ready (rs := [28]) (by as_aux_lemma => kernel_rfl) (List.cons_ne_nil _ _) ?_
      refine AllReadyH.cons (o := { dst := some 131, op := Go.Op.pick (Go.Operand.tmp 127) (Go.Operand.tmp 130) (Go.Operand.const (Go.Value.bool false)), type := 4, pos := "law.go:47", after := #[{ on := 24, ground := Go.Ground.data }, { on := 27, ground := Go.Ground.data }], guard := none }) rfl (fun K hK => ?_) AllReadyH.nil
      go_simp
      refine hK.out _ _ hHeld (fun _ => ?_)
      clear hK K
      try simp only [Act.put, List.setIfInBounds_toArray, List.set_cons_zero, List.set_cons_succ]
      refine wpAnyH_ready (rs := [29]) (by as_aux_lemma => kernel_rfl) (List.cons_ne_nil _ _) ?_
      refine AllReadyH.cons (o := { dst := some 132, op := Go.Op.move (Go.Operand.tmp 131), type := 4, pos := "law.go:47", after := #[{ on := 28, ground := Go.Ground.data }, { on := 27, ground := Go.Ground.chain }], guard := none }) rfl (fun K hK => ?_) AllReadyH.nil
      go_simp
      refine hK.out _ _ hHeld (fun _ => ?_)
      clear hK K
      try simp only [Act.put, List.setIfInBounds_toArray, List.set_cons_zero, List.set_cons_succ]
      refine wpAnyH_ready (rs := [30]) (by as_aux_lemma => kernel_rfl) (List.cons_ne_nil _ _) ?_
      refine AllReadyH.cons (o := { dst := some 133, op := Go.Op.move (Go.Operand.tmp 8), type := 3, pos := "law.go:47", after := #[{ on := 29, ground := Go.Ground.guard }], guard := some (29, true) }) rfl (fun K hK => ?_) AllReadyH.nil
      go_simp
      refine hK.out _ _ hHeld (fun _ => ?_)
      clear hK K
      try simp only [Act.put, List.setIfInBounds_toArray, List.set_cons_zero, List.set_cons_succ]
      refine wpAnyH_ready (rs := [31]) (by as_aux_lemma => kernel_rfl) (List.cons_ne_nil _ _) ?_
      refine AllReadyH.cons (o := { dst := some 134, op := Go.Op.binOp Go.BinOp.eql 3 (Go.Operand.tmp 133) (Go.Operand.const (Go.Value.int Go.IntKind.i64 3)) 3, type := 4, pos := "law.go:47", after := #[{ on := 30, ground := Go.Ground.data }, { on := 29, ground := Go.Ground.guard }], guard := some (29, true) }) rfl (fun K hK => ?_) AllReadyH.nil
      go_simp
      refine hK.out _ _ hHeld (fun _ => ?_)
      clear hK K
      try simp only [Act.put, List.setIfInBounds_toArray, List.set_cons_zero, List.set_cons_succ]
      refine wpAnyH_ready (rs := [32]) (by as_aux_lemma => kernel_rfl) (List.cons_ne_nil _ _) ?_
      refine AllReadyH.cons (o := { dst := some 135, op := Go.Op.pick (Go.Operand.tmp 132) (Go.Operand.tmp 134) (Go.Operand.const (Go.Value.bool false)), type := 4, pos := "law.go:47", after := #[{ on := 29, ground := Go.Ground.data }, { on := 31, ground := Go.Ground.data }], guard := none }) rfl (fun K hK => ?_) AllReadyH.nil
      go_simp
      refine hK.out _ _ hHeld (fun _ => ?_)
      clear hK K
      try simp only [Act.put, List.setIfInBounds_toArray, List.set_cons_zero, List.set_cons_succ]
      refine wpAnyH_ready (rs := [33]) (by as_aux_lemma => kernel_rfl) (List.cons_ne_nil _ _) ?_
      refine AllReadyH.cons (o := { dst := some 136, op := Go.Op.move (Go.Operand.tmp 135), type := 4, pos := "law.go:47", after := #[{ on := 32, ground := Go.Ground.data }, { on := 29, ground := Go.Ground.chain }], guard := none }) rfl (fun K hK => ?_) AllReadyH.nil
      go_simp
      refine hK.out _ _ hHeld (fun _ => ?_)
      clear hK K
      try simp only [Act.put, List.setIfInBounds_toArray, List.set_cons_zero, List.set_cons_succ]
      refine wpAnyH_ready (rs := [34]) (by as_aux_lemma => kernel_rfl) (List.cons_ne_nil _ _) ?_
      refine AllReadyH.cons (o := { dst := some 137, op := Go.Op.move (Go.Operand.tmp 9), type := 39, pos := "law.go:47", after := #[{ on := 33, ground := Go.Ground.guard }], guard := some (33, true) }) rfl (fun K hK => ?_) AllReadyH.nil
      go_simp
      refine hK.out _ _ hHeld (fun _ => ?_)
      clear hK K
      try simp only [Act.put, List.setIfInBounds_toArray, List.set_cons_zero, List.set_cons_succ]
      refine wpAnyH_ready (rs := [35]) (by as_aux_lemma => kernel_rfl) (List.cons_ne_nil _ _) ?_
      refine AllReadyH.cons (o := { dst := some 138, op := Go.Op.binOp Go.BinOp.eql 39 (Go.Operand.tmp 137) (Go.Operand.const (Go.Value.int Go.IntKind.i64 0)) 39, type := 4, pos := "law.go:47", after := #[{ on := 34, ground := Go.Ground.data }, { on := 33, ground := Go.Ground.guard }], guard := some (33, true) }) rfl (fun K hK => ?_) AllReadyH.nil
      go_simp
      refine hK.out _ _ hHeld (fun _ => ?_)
      clear hK K
      try simp only [Act.put, List.setIfInBounds_toArray, List.set_cons_zero, List.set_cons_succ]
      refine wpAnyH_ready (rs := [36]) (by as_aux_lemma => kernel_rfl) (List.cons_ne_nil _ _) ?_
      refine AllReadyH.cons (o := { dst := some 139, op := Go.Op.pick (Go.Operand.tmp 136) (Go.Operand.tmp 138) (Go.Operand.const (Go.Value.bool false)), type := 4, pos := "law.go:47", after := #[{ on := 33, ground := Go.Ground.data }, { on := 35, ground := Go.Ground.data }], guard := none }) rfl (fun K hK => ?_) AllReadyH.nil
      go_simp
      refine hK.out _ _ hHeld (fun _ => ?_)
      clear hK K
      try simp only [Act.put, List.setIfInBounds_toArray, List.set_cons_zero, List.set_cons_succ]
      refine wpAnyH_ready (rs := [37]) (by as_aux_lemma => kernel_rfl) (List.cons_ne_nil _ _) ?_
      refine AllReadyH.cons (o := { dst := some 140, op := Go.Op.move (Go.Operand.tmp 139), type := 4, pos := "law.go:47", after := #[{ on := 36, ground := Go.Ground.data }, { on := 33, ground := Go.Ground.chain }], guard := none }) rfl (fun K hK => ?_) AllReadyH.nil
      go_simp
      refine hK.out _ _ hHeld (fun _ => ?_)
      clear hK K
      try simp only [Act.put, List.setIfInBounds_toArray, List.set_cons_zero, List.set_cons_succ]
      refine wpAnyH_ready (rs := [38]) (by as_aux_lemma => kernel_rfl) (List.cons_ne_nil _ _) ?_
      refine AllReadyH.cons (o := { dst := some 141, op := Go.Op.move (Go.Operand.tmp 16), type := 3, pos := "law.go:47", after := #[{ on := 37, ground := Go.Ground.guard }], guard := some (37, true) }) rfl (fun K hK => ?_) AllReadyH.nil
      go_simp
      refine hK.out _ _ hHeld (fun _ => ?_)
      clear hK K
      try simp only [Act.put, List.setIfInBounds_toArray, List.set_cons_zero, List.set_cons_succ]
      refine wpAnyH_ready (rs := [39]) (by as_aux_lemma => kernel_rfl) (List.cons_ne_nil _ _) ?_
      refine AllReadyH.cons (o := { dst := some 142, op := Go.Op.binOp Go.BinOp.eql 3 (Go.Operand.tmp 141) (Go.Operand.const (Go.Value.int Go.IntKind.i64 40)) 3, type := 4, pos := "law.go:47", after := #[{ on := 38, ground := Go.Ground.data }, { on := 37, ground := Go.Ground.guard }], guard := some (37, true) }) rfl (fun K hK => ?_) AllReadyH.nil
      go_simp
      refine hK.out _ _ hHeld (fun _ => ?_)
      clear hK K
      try simp only [Act.put, List.setIfInBounds_toArray, List.set_cons_zero, List.set_cons_succ]
      refine wpAnyH_ready (rs := [40]) (by as_aux_lemma => kernel_rfl) (List.cons_ne_nil _ _) ?_
      refine AllReadyH.cons (o := { dst := some 143, op := Go.Op.pick (Go.Operand.tmp 140) (Go.Operand.tmp 142) (Go.Operand.const (Go.Value.bool false)), type := 4, pos := "law.go:47", after := #[{ on := 37, ground := Go.Ground.data }, { on := 39, ground := Go.Ground.data }], guard := none }) rfl (fun K hK => ?_) AllReadyH.nil
      go_simp
      refine hK.out _ _ hHeld (fun _ => ?_)
      clear hK K
      try simp only [Act.put, List.setIfInBounds_toArray, List.set_cons_zero, List.set_cons_succ]
      refine wpAnyH_ready (rs := [41]) (by as_aux_lemma => kernel_rfl) (List.cons_ne_nil _ _) ?_
      refine AllReadyH.cons (o := { dst := some 144, op := Go.Op.move (Go.Operand.tmp 143), type := 4, pos := "law.go:47", after := #[{ on := 40, ground := Go.Ground.data }, { on := 37, ground := Go.Ground.chain }], guard := none }) rfl (fun K hK => ?_) AllReadyH.nil
      go_simp
      refine hK.out _ _ hHeld (fun _ => ?_)
      clear hK K
      try simp only [Act.put, List.setIfInBounds_toArray, List.set_cons_zero, List.set_cons_succ]
      refine wpAnyH_ready (rs := [42]) (by as_aux_lemma => kernel_rfl) (List.cons_ne_nil _ _) ?_
      refine AllReadyH.cons (o := { dst := some 145, op := Go.Op.move (Go.Operand.tmp 17), type := 39, pos := "law.go:47", after := #[{ on := 41, ground := Go.Ground.guard }], guard := some (41, true) }) rfl (fun K hK => ?_) AllReadyH.nil
      go_simp
      refine hK.out _ _ hHeld (fun _ => ?_)
      clear hK K
      try simp only [Act.put, List.setIfInBounds_toArray, List.set_cons_zero, List.set_cons_succ]
      refine wpAnyH_ready (rs := [43]) (by as_aux_lemma => kernel_rfl) (List.cons_ne_nil _ _) ?_
      refine AllReadyH.cons (o := { dst := some 146, op := Go.Op.binOp Go.BinOp.eql 39 (Go.Operand.tmp 145) (Go.Operand.const (Go.Value.int Go.IntKind.i64 8)) 39, type := 4, pos := "law.go:47", after := #[{ on := 42, ground := Go.Ground.data }, { on := 41, ground := Go.Ground.guard }], guard := some (41, true) }) rfl (fun K hK => ?_) AllReadyH.nil
      go_simp
      refine hK.out _ _ hHeld (fun _ => ?_)
      clear hK K
      try simp only [Act.put, List.setIfInBounds_toArray, List.set_cons_zero, List.set_cons_succ]
      refine wpAnyH_ready (rs := [44]) (by as_aux_lemma => kernel_rfl) (List.cons_ne_nil _ _) ?_
      refine AllReadyH.cons (o := { dst := some 147, op := Go.Op.pick (Go.Operand.tmp 144) (Go.Operand.tmp 146) (Go.Operand.const (Go.Value.bool false)), type := 4, pos := "law.go:47", after := #[{ on := 41, ground := Go.Ground.data }, { on := 43, ground := Go.Ground.data }], guard := none }) rfl (fun K hK => ?_) AllReadyH.nil
      go_simp
      refine hK.out _ _ hHeld (fun _ => ?_)
      clear hK K
      try simp only [Act.put, List.setIfInBounds_toArray, List.set_cons_zero, List.set_cons_succ]
      refine wpAnyH_ready (rs := [45]) (by as_aux_lemma => kernel_rfl) (List.cons_ne_nil _ _) ?_
      refine AllReadyH.cons (o := { dst := some 148, op := Go.Op.move (Go.Operand.tmp 147), type := 4, pos := "law.go:47", after := #[{ on := 44, ground := Go.Ground.data }, { on := 41, ground := Go.Ground.chain }], guard := none }) rfl (fun K hK => ?_) AllReadyH.nil
      go_simp
      refine hK.out _ _ hHeld (fun _ => ?_)
      clear hK K
      try simp only [Act.put, List.setIfInBounds_toArray, List.set_cons_zero, List.set_cons_succ]
      refine wpAnyH_ready (rs := [46]) (by as_aux_lemma => kernel_rfl) (List.cons_ne_nil _ _) ?_
      refine AllReadyH.cons (o := { dst := some 149, op := Go.Op.move (Go.Operand.tmp 18), type := 30, pos := "law.go:47", after := #[{ on := 45, ground := Go.Ground.guard }], guard := some (45, true) }) rfl (fun K hK => ?_) AllReadyH.nil
      go_simp
      refine hK.out _ _ hHeld (fun _ => ?_)
      clear hK K
      try simp only [Act.put, List.setIfInBounds_toArray, List.set_cons_zero, List.set_cons_succ]
      refine wpAnyH_ready (rs := [47]) (by as_aux_lemma => kernel_rfl) (List.cons_ne_nil _ _) ?_
      refine AllReadyH.cons (o := { dst := some 150, op := Go.Op.call { callee := Go.Callee.builtin Go.Builtin.len, args := #[Go.Operand.tmp 149], argTypes := #[30] }, type := 3, pos := "law.go:47", after := #[{ on := 46, ground := Go.Ground.data }, { on := 45, ground := Go.Ground.guard }], guard := some (45, true) }) rfl (fun K hK => ?_) AllReadyH.nil
      go_simp
      refine hK.out _ _ hHeld (fun _ => ?_)
      clear hK K
      try simp only [Act.put, List.setIfInBounds_toArray, List.set_cons_zero, List.set_cons_succ]
      refine wpAnyH_ready (rs := [48]) (by as_aux_lemma => kernel_rfl) (List.cons_ne_nil _ _) ?_
      refine AllReadyH.cons (o := { dst := some 151, op := Go.Op.binOp Go.BinOp.eql 3 (Go.Operand.tmp 150) (Go.Operand.const (Go.Value.int Go.IntKind.i64 2)) 3, type := 4, pos := "law.go:47", after := #[{ on := 47, ground := Go.Ground.data }, { on := 45, ground := Go.Ground.guard }], guard := some (45, true) }) rfl (fun K hK => ?_) AllReadyH.nil
      go_simp
      refine hK.out _ _ hHeld (fun _ => ?_)
      clear hK K
      try simp only [Act.put, List.setIfInBounds_toArray, List.set_cons_zero, List.set_cons_succ]
      refine wpAnyH_ready (rs := [49]) (by as_aux_lemma => kernel_rfl) (List.cons_ne_nil _ _) ?_
      refine AllReadyH.cons (o := { dst := some 152, op := Go.Op.pick (Go.Operand.tmp 148) (Go.Operand.tmp 151) (Go.Operand.const (Go.Value.bool false)), type := 4, pos := "law.go:47", after := #[{ on := 45, ground := Go.Ground.data }, { on := 48, ground := Go.Ground.data }], guard := none }) rfl (fun K hK => ?_) AllReadyH.nil
      go_simp
      refine hK.out _ _ hHeld (fun _ => ?_)
      clear hK K
      try simp only [Act.put, List.setIfInBounds_toArray, List.set_cons_zero, List.set_cons_succ]
      refine wpAnyH_ready (rs := [50]) (by as_aux_lemma => kernel_rfl) (List.cons_ne_nil _ _) ?_
      refine AllReadyH.cons (o := { dst := some 153, op := Go.Op.move (Go.Operand.tmp 152), type := 4, pos := "law.go:47", after := #[{ on := 49, ground := Go.Ground.data }, { on := 45, ground := Go.Ground.chain }], guard := none }) rfl (fun K hK => ?_) AllReadyH.nil
      go_simp
      refine hK.out _ _ hHeld (fun _ => ?_)
      clear hK K
      try simp only [Act.put, List.setIfInBounds_toArray, List.set_cons_zero, List.set_cons_succ]
      refine wpAnyH_take (i := 51) (oi := { dst := some 154, op := Go.Op.move (Go.Operand.tmp 18), type := 30, pos := "law.go:47", after := #[{ on := 50, ground := Go.Ground.guard }], guard := some (50, true) }) (v := ?_) rfl (by as_aux_lemma => kernel_rfl) (by as_aux_lemma => kernel_rfl) (by as_aux_lemma => kernel_rfl) (fun _ _ _ h => h) (Or.inl ⟨by rfl, ?_⟩) hHeld ?_
      rotate_left
      · (intro w hSw; (try dsimp only at hSw); go_simp; try with_reducible rfl)
      try simp only [Act.put, List.setIfInBounds_toArray, List.set_cons_zero, List.set_cons_succ]
      refine wpAnyH_take (i := 52) (oi := { dst := some 155, op := Go.Op.indexAddr 30 (Go.Operand.tmp 154) (Go.Operand.const (Go.Value.int Go.IntKind.i64 1)), type := 0, pos := "law.go:47", after := #[{ on := 51, ground := Go.Ground.data }, { on := 50, ground := Go.Ground.guard }], guard := some (50, true) }) (v := ?_) rfl (by as_aux_lemma => kernel_rfl) (by as_aux_lemma => kernel_rfl) (by as_aux_lemma => kernel_rfl) (fun _ _ _ h => h) (Or.inl ⟨by rfl, ?_⟩) hHeld ?_
      rotate_left
      · (intro w hSw; (try dsimp only at hSw); go_simp; try with_reducible rfl)
      try simp only [Act.put, List.setIfInBounds_toArray, List.set_cons_zero, List.set_cons_succ]
      refine wpAnyH_take (i := 53) (oi := { dst := some 156, op := Go.Op.load 32 (Go.Operand.tmp 155), type := 32, pos := "law.go:47", after := #[{ on := 52, ground := Go.Ground.data }, { on := 50, ground := Go.Ground.guard }], guard := some (50, true) }) (v := ?_) rfl (by as_aux_lemma => kernel_rfl) (by as_aux_lemma => kernel_rfl) (by as_aux_lemma => kernel_rfl) (fun _ _ _ h => h) (Or.inl ⟨by rfl, ?_⟩) hHeld ?_
      rotate_left
      · (intro w hSw; (try dsimp only at hSw); go_simp; try with_reducible rfl)
      try simp only [Act.put, List.setIfInBounds_toArray, List.set_cons_zero, List.set_cons_succ]
      refine wpAnyH_ready (rs := [54]) (by as_aux_lemma => kernel_rfl) (List.cons_ne_nil _ _) ?_
      refine AllReadyH.cons (o := { dst := some 157, op := Go.Op.call { callee := Go.Callee.value (Go.Operand.func 52), args := #[Go.Operand.const (Go.Value.int Go.IntKind.i64 1)], argTypes := #[2] }, type := 32, pos := "law.go:47", after := #[{ on := 50, ground := Go.Ground.chain }, { on := 50, ground := Go.Ground.guard }], guard := some (50, true) }) rfl (fun K hK => ?_) AllReadyH.nil
      go_simp
      refine (number_calls 1 _).mono ?_
      rintro e W' ⟨rfl, hb⟩
      go_wp2_with fail
      refine hK.out _ _ (hUp _ _ hHeld hb) (fun hHeld2 => ?_)
      clear hK K hb hHeld
      have hHeld := hHeld2
      clear hHeld2
      try simp only [Act.put, List.setIfInBounds_toArray, List.set_cons_zero, List.set_cons_succ]
      refine wpAnyH_ready (rs := [55]) (by as_aux_lemma => kernel_rfl) (List.cons_ne_nil _ _) ?_
      refine AllReadyH.cons (o := { dst := some 158, op := Go.Op.call { callee := Go.Callee.value (Go.Operand.func 52), args := #[Go.Operand.const (Go.Value.int Go.IntKind.i64 2)], argTypes := #[2] }, type := 32, pos := "law.go:47", after := #[{ on := 54, ground := Go.Ground.chain }, { on := 50, ground := Go.Ground.guard }], guard := some (50, true) }) rfl (fun K hK => ?_) AllReadyH.nil
      go_simp
      refine (number_calls 2 _).mono ?_
      rintro e W' ⟨rfl, hb⟩
      go_wp2_with fail
      refine hK.out _ _ (hUp _ _ hHeld hb) (fun hHeld2 => ?_)
      clear hK K hb hHeld
      have hHeld := hHeld2
      clear hHeld2
      try simp only [Act.put, List.setIfInBounds_toArray, List.set_cons_zero, List.set_cons_succ]
      refine wpAnyH_ready (rs := [56]) (by as_aux_lemma => kernel_rfl) (List.cons_ne_nil _ _) ?_
      refine AllReadyH.cons (o := { dst := some 159, op := Go.Op.call { callee := Go.Callee.value (Go.Operand.func 50), args := #[Go.Operand.const (Go.Value.int Go.IntKind.i64 1), Go.Operand.tmp 157, Go.Operand.tmp 158], argTypes := #[3, 32, 32] }, type := 32, pos := "law.go:47", after := #[{ on := 54, ground := Go.Ground.data }, { on := 55, ground := Go.Ground.data }, { on := 55, ground := Go.Ground.chain }, { on := 50, ground := Go.Ground.guard }], guard := some (50, true) }) rfl (fun K hK => ?_) AllReadyH.nil
      go_simp
      refine (pair_calls 1 (nE 1) (nE 2) (ok_n _ (by decide)) (ok_n _ (by decide)) (.slice none 0 0) (.slice none 0 0) _ (ein_nil _) (ein_nil _)).mono ?_
      rintro e W' ⟨B5, d5, rfl, hb, hE5⟩
      go_wp2_with fail
      refine hK.out _ _ (hUp _ _ hHeld hb) (fun hHeld2 => ?_)
      clear hK K hb hHeld
      have hHeld := hHeld2
      clear hHeld2
      try simp only [Act.put, List.setIfInBounds_toArray, List.set_cons_zero, List.set_cons_succ]
      refine wpAnyH_ready (rs := [57]) (by as_aux_lemma => kernel_rfl) (List.cons_ne_nil _ _) ?_
      refine AllReadyH.cons (o := { dst := some 160, op := Go.Op.call { callee := Go.Callee.value (Go.Operand.func 27), args := #[Go.Operand.tmp 156, Go.Operand.tmp 159], argTypes := #[32, 32] }, type := 4, pos := "law.go:47", after := #[{ on := 53, ground := Go.Ground.data }, { on := 56, ground := Go.Ground.data }, { on := 56, ground := Go.Ground.chain }, { on := 50, ground := Go.Ground.guard }], guard := some (50, true) }) rfl (fun K hK => ?_) AllReadyH.nil
      go_simp
      refine (K4.out _ _ _ hHeld hE5).mono ?_
      rintro e W' ⟨rfl, hb⟩
      go_wp2_with fail
      refine hK.out _ _ (hUp _ _ hHeld hb) (fun hHeld2 => ?_)
      clear hK K hb hHeld
      have hHeld := hHeld2
      clear hHeld2
      try simp only [Act.put, List.setIfInBounds_toArray, List.set_cons_zero, List.set_cons_succ]
      refine wpAnyH_ready (rs := [58]) (by as_aux_lemma => kernel_rfl) (List.cons_ne_nil _ _) ?_
      refine AllReadyH.cons (o := { dst := some 161, op := Go.Op.pick (Go.Operand.tmp 153) (Go.Operand.tmp 160) (Go.Operand.const (Go.Value.bool false)), type := 4, pos := "law.go:47", after := #[{ on := 50, ground := Go.Ground.data }, { on := 57, ground := Go.Ground.data }], guard := none }) rfl (fun K hK => ?_) AllReadyH.nil
      go_simp
      refine hK.out _ _ hHeld (fun _ => ?_)
      clear hK K
      try simp only [Act.put, List.setIfInBounds_toArray, List.set_cons_zero, List.set_cons_succ]
      refine wpAnyH_ready (rs := [59]) (by as_aux_lemma => kernel_rfl) (List.cons_ne_nil _ _) ?_
      refine AllReadyH.cons (o := { dst := some 162, op := Go.Op.move (Go.Operand.tmp 161), type := 4, pos := "law.go:47", after := #[{ on := 58, ground := Go.Ground.data }, { on := 57, ground := Go.Ground.chain }], guard := none }) rfl (fun K hK => ?_) AllReadyH.nil
      go_simp
      refine hK.out _ _ hHeld (fun _ => ?_)
      clear hK K
      try simp only [Act.put, List.setIfInBounds_toArray, List.set_cons_zero, List.set_cons_succ]
      refine wpAnyH_ready (rs := [60]) (by as_aux_lemma => kernel_rfl) (List.cons_ne_nil _ _) ?_
      refine AllReadyH.cons (o := { dst := some 163, op := Go.Op.move (Go.Operand.tmp 19), type := 3, pos := "law.go:47", after := #[{ on := 59, ground := Go.Ground.guard }], guard := some (59, true) }) rfl (fun K hK => ?_) AllReadyH.nil
      go_simp
      refine hK.out _ _ hHeld (fun _ => ?_)
      clear hK K
      try simp only [Act.put, List.setIfInBounds_toArray, List.set_cons_zero, List.set_cons_succ]
      refine wpAnyH_ready (rs := [61]) (by as_aux_lemma => kernel_rfl) (List.cons_ne_nil _ _) ?_
      refine AllReadyH.cons (o := { dst := some 164, op := Go.Op.binOp Go.BinOp.eql 3 (Go.Operand.tmp 163) (Go.Operand.const (Go.Value.int Go.IntKind.i64 7)) 3, type := 4, pos := "law.go:47", after := #[{ on := 60, ground := Go.Ground.data }, { on := 59, ground := Go.Ground.guard }], guard := some (59, true) }) rfl (fun K hK => ?_) AllReadyH.nil
      go_simp
      refine hK.out _ _ hHeld (fun _ => ?_)
      clear hK K
      try simp only [Act.put, List.setIfInBounds_toArray, List.set_cons_zero, List.set_cons_succ]
      refine wpAnyH_ready (rs := [62]) (by as_aux_lemma => kernel_rfl) (List.cons_ne_nil _ _) ?_
      refine AllReadyH.cons (o := { dst := some 165, op := Go.Op.pick (Go.Operand.tmp 162) (Go.Operand.tmp 164) (Go.Operand.const (Go.Value.bool false)), type := 4, pos := "law.go:47", after := #[{ on := 59, ground := Go.Ground.data }, { on := 61, ground := Go.Ground.data }], guard := none }) rfl (fun K hK => ?_) AllReadyH.nil
      go_simp
      refine hK.out _ _ hHeld (fun _ => ?_)
      clear hK K
      try simp only [Act.put, List.setIfInBounds_toArray, List.set_cons_zero, List.set_cons_succ]
      refine wpAnyH_ready (rs := [63]) (by as_aux_lemma => kernel_rfl) (List.cons_ne_nil _ _) ?_
      refine AllReadyH.cons (o := { dst := some 166, op := Go.Op.move (Go.Operand.tmp 165), type := 4, pos := "law.go:47", after := #[{ on := 62, ground := Go.Ground.data }, { on := 59, ground := Go.Ground.chain }], guard := none }) rfl (fun K hK => ?_) AllReadyH.nil
      go_simp
      refine hK.out _ _ hHeld (fun _ => ?_)
      clear hK K
      try simp only [Act.put, List.setIfInBounds_toArray, List.set_cons_zero, List.set_cons_succ]
      refine wpAnyH_ready (rs := [64]) (by as_aux_lemma => kernel_rfl) (List.cons_ne_nil _ _) ?_
      refine AllReadyH.cons (o := { dst := some 167, op := Go.Op.move (Go.Operand.tmp 20), type := 39, pos := "law.go:47", after := #[{ on := 63, ground := Go.Ground.guard }], guard := some (63, true) }) rfl (fun K hK => ?_) AllReadyH.nil
      go_simp
      refine hK.out _ _ hHeld (fun _ => ?_)
      clear hK K
      try simp only [Act.put, List.setIfInBounds_toArray, List.set_cons_zero, List.set_cons_succ]
      refine wpAnyH_ready (rs := [65]) (by as_aux_lemma => kernel_rfl) (List.cons_ne_nil _ _) ?_
      refine AllReadyH.cons (o := { dst := some 168, op := Go.Op.binOp Go.BinOp.eql 39 (Go.Operand.tmp 167) (Go.Operand.const (Go.Value.int Go.IntKind.i64 0)) 39, type := 4, pos := "law.go:47", after := #[{ on := 64, ground := Go.Ground.data }, { on := 63, ground := Go.Ground.guard }], guard := some (63, true) }) rfl (fun K hK => ?_) AllReadyH.nil
      go_simp
      refine hK.out _ _ hHeld (fun _ => ?_)
      clear hK K
      try simp only [Act.put, List.setIfInBounds_toArray, List.set_cons_zero, List.set_cons_succ]
      refine wpAnyH_ready (rs := [66]) (by as_aux_lemma => kernel_rfl) (List.cons_ne_nil _ _) ?_
      refine AllReadyH.cons (o := { dst := some 169, op := Go.Op.pick (Go.Operand.tmp 166) (Go.Operand.tmp 168) (Go.Operand.const (Go.Value.bool false)), type := 4, pos := "law.go:47", after := #[{ on := 63, ground := Go.Ground.data }, { on := 65, ground := Go.Ground.data }], guard := none }) rfl (fun K hK => ?_) AllReadyH.nil
      go_simp
      refine hK.out _ _ hHeld (fun _ => ?_)
      clear hK K
      try simp only [Act.put, List.setIfInBounds_toArray, List.set_cons_zero, List.set_cons_succ]
      refine wpAnyH_ready (rs := [67]) (by as_aux_lemma => kernel_rfl) (List.cons_ne_nil _ _) ?_
      refine AllReadyH.cons (o := { dst := some 170, op := Go.Op.move (Go.Operand.tmp 169), type := 4, pos := "law.go:47", after := #[{ on := 66, ground := Go.Ground.data }, { on := 63, ground := Go.Ground.chain }], guard := none }) rfl (fun K hK => ?_) AllReadyH.nil
      go_simp
      refine hK.out _ _ hHeld (fun _ => ?_)
      clear hK K
      try simp only [Act.put, List.setIfInBounds_toArray, List.set_cons_zero, List.set_cons_succ]
      refine wpAnyH_ready (rs := [68]) (by as_aux_lemma => kernel_rfl) (List.cons_ne_nil _ _) ?_
      refine AllReadyH.cons (o := { dst := some 171, op := Go.Op.move (Go.Operand.tmp 22), type := 3, pos := "law.go:47", after := #[{ on := 67, ground := Go.Ground.guard }], guard := some (67, true) }) rfl (fun K hK => ?_) AllReadyH.nil
      go_simp
      refine hK.out _ _ hHeld (fun _ => ?_)
      clear hK K
      try simp only [Act.put, List.setIfInBounds_toArray, List.set_cons_zero, List.set_cons_succ]
      refine wpAnyH_ready (rs := [69]) (by as_aux_lemma => kernel_rfl) (List.cons_ne_nil _ _) ?_
      refine AllReadyH.cons (o := { dst := some 172, op := Go.Op.binOp Go.BinOp.eql 3 (Go.Operand.tmp 171) (Go.Operand.const (Go.Value.int Go.IntKind.i64 3)) 3, type := 4, pos := "law.go:47", after := #[{ on := 68, ground := Go.Ground.data }, { on := 67, ground := Go.Ground.guard }], guard := some (67, true) }) rfl (fun K hK => ?_) AllReadyH.nil
      go_simp
      refine hK.out _ _ hHeld (fun _ => ?_)
      clear hK K
      try simp only [Act.put, List.setIfInBounds_toArray, List.set_cons_zero, List.set_cons_succ]
      refine wpAnyH_ready (rs := [70]) (by as_aux_lemma => kernel_rfl) (List.cons_ne_nil _ _) ?_
      refine AllReadyH.cons (o := { dst := some 173, op := Go.Op.pick (Go.Operand.tmp 170) (Go.Operand.tmp 172) (Go.Operand.const (Go.Value.bool false)), type := 4, pos := "law.go:47", after := #[{ on := 67, ground := Go.Ground.data }, { on := 69, ground := Go.Ground.data }], guard := none }) rfl (fun K hK => ?_) AllReadyH.nil
      go_simp
      refine hK.out _ _ hHeld (fun _ => ?_)
      clear hK K
      try simp only [Act.put, List.setIfInBounds_toArray, List.set_cons_zero, List.set_cons_succ]
      refine wpAnyH_ready (rs := [71]) (by as_aux_lemma => kernel_rfl) (List.cons_ne_nil _ _) ?_
      refine AllReadyH.cons (o := { dst := some 174, op := Go.Op.move (Go.Operand.tmp 173), type := 4, pos := "law.go:47", after := #[{ on := 70, ground := Go.Ground.data }, { on := 67, ground := Go.Ground.chain }], guard := none }) rfl (fun K hK => ?_) AllReadyH.nil
      go_simp
      refine hK.out _ _ hHeld (fun _ => ?_)
      clear hK K
      try simp only [Act.put, List.setIfInBounds_toArray, List.set_cons_zero, List.set_cons_succ]
      refine wpAnyH_ready (rs := [72]) (by as_aux_lemma => kernel_rfl) (List.cons_ne_nil _ _) ?_
      refine AllReadyH.cons (o := { dst := some 175, op := Go.Op.move (Go.Operand.tmp 23), type := 39, pos := "law.go:47", after := #[{ on := 71, ground := Go.Ground.guard }], guard := some (71, true) }) rfl (fun K hK => ?_) AllReadyH.nil
      go_simp
      refine hK.out _ _ hHeld (fun _ => ?_)
      clear hK K
      try simp only [Act.put, List.setIfInBounds_toArray, List.set_cons_zero, List.set_cons_succ]
      refine wpAnyH_ready (rs := [73]) (by as_aux_lemma => kernel_rfl) (List.cons_ne_nil _ _) ?_
      refine AllReadyH.cons (o := { dst := some 176, op := Go.Op.binOp Go.BinOp.eql 39 (Go.Operand.tmp 175) (Go.Operand.const (Go.Value.int Go.IntKind.i64 7)) 39, type := 4, pos := "law.go:47", after := #[{ on := 72, ground := Go.Ground.data }, { on := 71, ground := Go.Ground.guard }], guard := some (71, true) }) rfl (fun K hK => ?_) AllReadyH.nil
      go_simp
      refine hK.out _ _ hHeld (fun _ => ?_)
      clear hK K
      try simp only [Act.put, List.setIfInBounds_toArray, List.set_cons_zero, List.set_cons_succ]
      refine wpAnyH_ready (rs := [74]) (by as_aux_lemma => kernel_rfl) (List.cons_ne_nil _ _) ?_
      refine AllReadyH.cons (o := { dst := some 177, op := Go.Op.pick (Go.Operand.tmp 174) (Go.Operand.tmp 176) (Go.Operand.const (Go.Value.bool false)), type := 4, pos := "law.go:47", after := #[{ on := 71, ground := Go.Ground.data }, { on := 73, ground := Go.Ground.data }], guard := none }) rfl (fun K hK => ?_) AllReadyH.nil
      go_simp
      refine hK.out _ _ hHeld (fun _ => ?_)
      clear hK K
      try simp only [Act.put, List.setIfInBounds_toArray, List.set_cons_zero, List.set_cons_succ]
      refine wpAnyH_ready (rs := [75]) (by as_aux_lemma => kernel_rfl) (List.cons_ne_nil _ _) ?_
      refine AllReadyH.cons (o := { dst := some 178, op := Go.Op.move (Go.Operand.tmp 177), type := 4, pos := "law.go:47", after := #[{ on := 74, ground := Go.Ground.data }, { on := 71, ground := Go.Ground.chain }], guard := none }) rfl (fun K hK => ?_) AllReadyH.nil
      go_simp
      refine hK.out _ _ hHeld (fun _ => ?_)
      clear hK K
      try simp only [Act.put, List.setIfInBounds_toArray, List.set_cons_zero, List.set_cons_succ]
      refine wpAnyH_ready (rs := [76]) (by as_aux_lemma => kernel_rfl) (List.cons_ne_nil _ _) ?_
      refine AllReadyH.cons (o := { dst := some 179, op := Go.Op.move (Go.Operand.tmp 24), type := 3, pos := "law.go:47", after := #[{ on := 75, ground := Go.Ground.guard }], guard := some (75, true) }) rfl (fun K hK => ?_) AllReadyH.nil
      go_simp
      refine hK.out _ _ hHeld (fun _ => ?_)
      clear hK K
      try simp only [Act.put, List.setIfInBounds_toArray, List.set_cons_zero, List.set_cons_succ]
      refine wpAnyH_ready (rs := [77]) (by as_aux_lemma => kernel_rfl) (List.cons_ne_nil _ _) ?_
      refine AllReadyH.cons (o := { dst := some 180, op := Go.Op.binOp Go.BinOp.eql 3 (Go.Operand.tmp 179) (Go.Operand.const (Go.Value.int Go.IntKind.i64 3)) 3, type := 4, pos := "law.go:47", after := #[{ on := 76, ground := Go.Ground.data }, { on := 75, ground := Go.Ground.guard }], guard := some (75, true) }) rfl (fun K hK => ?_) AllReadyH.nil
      go_simp
      refine hK.out _ _ hHeld (fun _ => ?_)
      clear hK K
      try simp only [Act.put, List.setIfInBounds_toArray, List.set_cons_zero, List.set_cons_succ]
      refine wpAnyH_ready (rs := [78]) (by as_aux_lemma => kernel_rfl) (List.cons_ne_nil _ _) ?_
      refine AllReadyH.cons (o := { dst := some 181, op := Go.Op.pick (Go.Operand.tmp 178) (Go.Operand.tmp 180) (Go.Operand.const (Go.Value.bool false)), type := 4, pos := "law.go:47", after := #[{ on := 75, ground := Go.Ground.data }, { on := 77, ground := Go.Ground.data }], guard := none }) rfl (fun K hK => ?_) AllReadyH.nil
      go_simp
      refine hK.out _ _ hHeld (fun _ => ?_)
      clear hK K
      try simp only [Act.put, List.setIfInBounds_toArray, List.set_cons_zero, List.set_cons_succ]
      refine wpAnyH_ready (rs := [79]) (by as_aux_lemma => kernel_rfl) (List.cons_ne_nil _ _) ?_
      refine AllReadyH.cons (o := { dst := some 182, op := Go.Op.move (Go.Operand.tmp 181), type := 4, pos := "law.go:47", after := #[{ on := 78, ground := Go.Ground.data }, { on := 75, ground := Go.Ground.chain }], guard := none }) rfl (fun K hK => ?_) AllReadyH.nil
      go_simp
      refine hK.out _ _ hHeld (fun _ => ?_)
      clear hK K
      try simp only [Act.put, List.setIfInBounds_toArray, List.set_cons_zero, List.set_cons_succ]
      refine wpAnyH_ready (rs := [80]) (by as_aux_lemma => kernel_rfl) (List.cons_ne_nil _ _) ?_
      refine AllReadyH.cons (o := { dst := some 183, op := Go.Op.move (Go.Operand.tmp 25), type := 3, pos := "law.go:47", after := #[{ on := 79, ground := Go.Ground.guard }], guard := some (79, true) }) rfl (fun K hK => ?_) AllReadyH.nil
      go_simp
      refine hK.out _ _ hHeld (fun _ => ?_)
      clear hK K
      try simp only [Act.put, List.setIfInBounds_toArray, List.set_cons_zero, List.set_cons_succ]
      refine wpAnyH_ready (rs := [81]) (by as_aux_lemma => kernel_rfl) (List.cons_ne_nil _ _) ?_
      refine AllReadyH.cons (o := { dst := some 184, op := Go.Op.binOp Go.BinOp.eql 3 (Go.Operand.tmp 183) (Go.Operand.const (Go.Value.int Go.IntKind.i64 5)) 3, type := 4, pos := "law.go:47", after := #[{ on := 80, ground := Go.Ground.data }, { on := 79, ground := Go.Ground.guard }], guard := some (79, true) }) rfl (fun K hK => ?_) AllReadyH.nil
      go_simp
      refine hK.out _ _ hHeld (fun _ => ?_)
      clear hK K
      try simp only [Act.put, List.setIfInBounds_toArray, List.set_cons_zero, List.set_cons_succ]
      refine wpAnyH_ready (rs := [82]) (by as_aux_lemma => kernel_rfl) (List.cons_ne_nil _ _) ?_
      refine AllReadyH.cons (o := { dst := some 185, op := Go.Op.pick (Go.Operand.tmp 182) (Go.Operand.tmp 184) (Go.Operand.const (Go.Value.bool false)), type := 4, pos := "law.go:47", after := #[{ on := 79, ground := Go.Ground.data }, { on := 81, ground := Go.Ground.data }], guard := none }) rfl (fun K hK => ?_) AllReadyH.nil
      go_simp
      refine hK.out _ _ hHeld (fun _ => ?_)
      clear hK K
      try simp only [Act.put, List.setIfInBounds_toArray, List.set_cons_zero, List.set_cons_succ]
      refine wpAnyH_ready (rs := [83]) (by as_aux_lemma => kernel_rfl) (List.cons_ne_nil _ _) ?_
      refine AllReadyH.cons (o := { dst := some 186, op := Go.Op.move (Go.Operand.tmp 185), type := 4, pos := "law.go:47", after := #[{ on := 82, ground := Go.Ground.data }, { on := 79, ground := Go.Ground.chain }], guard := none }) rfl (fun K hK => ?_) AllReadyH.nil
      go_simp
      refine hK.out _ _ hHeld (fun _ => ?_)
      clear hK K
      try simp only [Act.put, List.setIfInBounds_toArray, List.set_cons_zero, List.set_cons_succ]
      refine wpAnyH_ready (rs := [84]) (by as_aux_lemma => kernel_rfl) (List.cons_ne_nil _ _) ?_
      refine AllReadyH.cons (o := { dst := some 187, op := Go.Op.call { callee := Go.Callee.value (Go.Operand.func 18), args := #[Go.Operand.const (Go.Value.int Go.IntKind.i64 9)], argTypes := #[3] }, type := 9, pos := "law.go:47", after := #[{ on := 83, ground := Go.Ground.chain }, { on := 83, ground := Go.Ground.guard }], guard := some (83, true) }) rfl (fun K hK => ?_) AllReadyH.nil
      go_simp
      refine (K5.out _ hHeld).mono ?_
      rintro e W' ⟨rfl, hb⟩
      go_wp2_with fail
      refine hK.out _ _ (hUp _ _ hHeld hb) (fun hHeld2 => ?_)
      clear hK K hb hHeld
      have hHeld := hHeld2
      clear hHeld2
      try simp only [Act.put, List.setIfInBounds_toArray, List.set_cons_zero, List.set_cons_succ]
      refine wpAnyH_ready (rs := [85]) (by as_aux_lemma => kernel_rfl) (List.cons_ne_nil _ _) ?_
      refine AllReadyH.cons (o := { dst := some 188, op := Go.Op.binOp Go.BinOp.eql 9 (Go.Operand.tmp 187) (Go.Operand.const (Go.Value.string { data := #[60, 61] })) 9, type := 4, pos := "law.go:47", after := #[{ on := 84, ground := Go.Ground.data }, { on := 83, ground := Go.Ground.guard }], guard := some (83, true) }) rfl (fun K hK => ?_) AllReadyH.nil
      go_simp
      refine hK.out _ _ hHeld (fun _ => ?_)
      clear hK K
      try simp only [Act.put, List.setIfInBounds_toArray, List.set_cons_zero, List.set_cons_succ]
      refine wpAnyH_ready (rs := [86]) (by as_aux_lemma => kernel_rfl) (List.cons_ne_nil _ _) ?_
      refine AllReadyH.cons (o := { dst := some 189, op := Go.Op.pick (Go.Operand.tmp 186) (Go.Operand.tmp 188) (Go.Operand.const (Go.Value.bool false)), type := 4, pos := "law.go:47", after := #[{ on := 83, ground := Go.Ground.data }, { on := 85, ground := Go.Ground.data }], guard := none }) rfl (fun K hK => ?_) AllReadyH.nil
      go_simp
      refine hK.out _ _ hHeld (fun _ => ?_)
      clear hK K
      try simp only [Act.put, List.setIfInBounds_toArray, List.set_cons_zero, List.set_cons_succ]
      refine wpAnyH_ready (rs := [87]) (by as_aux_lemma => kernel_rfl) (List.cons_ne_nil _ _) ?_
      refine AllReadyH.cons (o := { dst := some 190, op := Go.Op.move (Go.Operand.tmp 189), type := 4, pos := "law.go:47", after := #[{ on := 86, ground := Go.Ground.data }, { on := 84, ground := Go.Ground.chain }], guard := none }) rfl (fun K hK => ?_) AllReadyH.nil
      go_simp
      refine hK.out _ _ hHeld (fun _ => ?_)
      clear hK K
      try simp only [Act.put, List.setIfInBounds_toArray, List.set_cons_zero, List.set_cons_succ]
      refine wpAnyH_ready (rs := [88]) (by as_aux_lemma => kernel_rfl) (List.cons_ne_nil _ _) ?_
      refine AllReadyH.cons (o := { dst := some 191, op := Go.Op.call { callee := Go.Callee.value (Go.Operand.func 18), args := #[Go.Operand.const (Go.Value.int Go.IntKind.i64 16)], argTypes := #[3] }, type := 9, pos := "law.go:47", after := #[{ on := 87, ground := Go.Ground.chain }, { on := 87, ground := Go.Ground.guard }], guard := some (87, true) }) rfl (fun K hK => ?_) AllReadyH.nil
      go_simp
      refine (K6.out _ hHeld).mono ?_
      rintro e W' ⟨rfl, hb⟩
      go_wp2_with fail
      refine hK.out _ _ (hUp _ _ hHeld hb) (fun hHeld2 => ?_)
      clear hK K hb hHeld
      have hHeld := hHeld2
      clear hHeld2
      try simp only [Act.put, List.setIfInBounds_toArray, List.set_cons_zero, List.set_cons_succ]
      refine wpAnyH_ready (rs := [89]) (by as_aux_lemma => kernel_rfl) (List.cons_ne_nil _ _) ?_
      refine AllReadyH.cons (o := { dst := some 192, op := Go.Op.binOp Go.BinOp.eql 9 (Go.Operand.tmp 191) (Go.Operand.const (Go.Value.string { data := #[] })) 9, type := 4, pos := "law.go:47", after := #[{ on := 88, ground := Go.Ground.data }, { on := 87, ground := Go.Ground.guard }], guard := some (87, true) }) rfl (fun K hK => ?_) AllReadyH.nil
      go_simp
      refine hK.out _ _ hHeld (fun _ => ?_)
      clear hK K
      try simp only [Act.put, List.setIfInBounds_toArray, List.set_cons_zero, List.set_cons_succ]
      refine wpAnyH_ready (rs := [90]) (by as_aux_lemma => kernel_rfl) (List.cons_ne_nil _ _) ?_
      refine AllReadyH.cons (o := { dst := some 193, op := Go.Op.pick (Go.Operand.tmp 190) (Go.Operand.tmp 192) (Go.Operand.const (Go.Value.bool false)), type := 4, pos := "law.go:47", after := #[{ on := 87, ground := Go.Ground.data }, { on := 89, ground := Go.Ground.data }], guard := none }) rfl (fun K hK => ?_) AllReadyH.nil
      go_simp
      refine hK.out _ _ hHeld (fun _ => ?_)
      clear hK K
      try simp only [Act.put, List.setIfInBounds_toArray, List.set_cons_zero, List.set_cons_succ]
      refine wpAnyH_ready (rs := [91]) (by as_aux_lemma => kernel_rfl) (List.cons_ne_nil _ _) ?_
      refine AllReadyH.cons (o := { dst := some 0, op := Go.Op.assign (Go.Operand.tmp 193), type := 4, pos := "law.go:47", after := ([{ on := 90, ground := Go.Ground.data }, { on := 88, ground := Go.Ground.chain }, { on := 0, ground := Go.Ground.phase }, { on := 1, ground := Go.Ground.phase }, { on := 2, ground := Go.Ground.phase }, { on := 3, ground := Go.Ground.phase }, { on := 4, ground := Go.Ground.phase }, { on := 5, ground := Go.Ground.phase }, { on := 6, ground := Go.Ground.phase }, { on := 7, ground := Go.Ground.phase }, { on := 8, ground := Go.Ground.phase }, { on := 9, ground := Go.Ground.phase }, { on := 10, ground := Go.Ground.phase }, { on := 11, ground := Go.Ground.phase }, { on := 12, ground := Go.Ground.phase }, { on := 13, ground := Go.Ground.phase }, { on := 14, ground := Go.Ground.phase }, { on := 15, ground := Go.Ground.phase }, { on := 16, ground := Go.Ground.phase }, { on := 17, ground := Go.Ground.phase }, { on := 18, ground := Go.Ground.phase }, { on := 19, ground := Go.Ground.phase }, { on := 20, ground := Go.Ground.phase }, { on := 21, ground := Go.Ground.phase }, { on := 22, ground := Go.Ground.phase }, { on := 23, ground := Go.Ground.phase }, { on := 24, ground := Go.Ground.phase }, { on := 25, ground := Go.Ground.phase }, { on := 26, ground := Go.Ground.phase }, { on := 27, ground := Go.Ground.phase }, { on := 28, ground := Go.Ground.phase }, { on := 29, ground := Go.Ground.phase }, { on := 30, ground := Go.Ground.phase }, { on := 31, ground := Go.Ground.phase }, { on := 32, ground := Go.Ground.phase }, { on := 33, ground := Go.Ground.phase }, { on := 34, ground := Go.Ground.phase }, { on := 35, ground := Go.Ground.phase }, { on := 36, ground := Go.Ground.phase }, { on := 37, ground := Go.Ground.phase }, { on := 38, ground := Go.Ground.phase }, { on := 39, ground := Go.Ground.phase }, { on := 40, ground := Go.Ground.phase }, { on := 41, ground := Go.Ground.phase }, { on := 42, ground := Go.Ground.phase }, { on := 43, ground := Go.Ground.phase }].append [{ on := 44, ground := Go.Ground.phase }, { on := 45, ground := Go.Ground.phase }, { on := 46, ground := Go.Ground.phase }, { on := 47, ground := Go.Ground.phase }, { on := 48, ground := Go.Ground.phase }, { on := 49, ground := Go.Ground.phase }, { on := 50, ground := Go.Ground.phase }, { on := 51, ground := Go.Ground.phase }, { on := 52, ground := Go.Ground.phase }, { on := 53, ground := Go.Ground.phase }, { on := 54, ground := Go.Ground.phase }, { on := 55, ground := Go.Ground.phase }, { on := 56, ground := Go.Ground.phase }, { on := 57, ground := Go.Ground.phase }, { on := 58, ground := Go.Ground.phase }, { on := 59, ground := Go.Ground.phase }, { on := 60, ground := Go.Ground.phase }, { on := 61, ground := Go.Ground.phase }, { on := 62, ground := Go.Ground.phase }, { on := 63, ground := Go.Ground.phase }, { on := 64, ground := Go.Ground.phase }, { on := 65, ground := Go.Ground.phase }, { on := 66, ground := Go.Ground.phase }, { on := 67, ground := Go.Ground.phase }, { on := 68, ground := Go.Ground.phase }, { on := 69, ground := Go.Ground.phase }, { on := 70, ground := Go.Ground.phase }, { on := 71, ground := Go.Ground.phase }, { on := 72, ground := Go.Ground.phase }, { on := 73, ground := Go.Ground.phase }, { on := 74, ground := Go.Ground.phase }, { on := 75, ground := Go.Ground.phase }, { on := 76, ground := Go.Ground.phase }, { on := 77, ground := Go.Ground.phase }, { on := 78, ground := Go.Ground.phase }, { on := 79, ground := Go.Ground.phase }, { on := 80, ground := Go.Ground.phase }, { on := 81, ground := Go.Ground.phase }, { on := 82, ground := Go.Ground.phase }, { on := 83, ground := Go.Ground.phase }, { on := 84, ground := Go.Ground.phase }, { on := 85, ground := Go.Ground.phase }, { on := 86, ground := Go.Ground.phase }, { on := 87, ground := Go.Ground.phase }, { on := 88, ground := Go.Ground.phase }, { on := 89, ground := Go.Ground.phase }, { on := 90, ground := Go.Ground.phase }]).toArray, guard := none }) rfl (fun K hK => ?_) AllReadyH.nil
      go_simp
      refine hK.out _ _ hHeld (fun _ => ?_)
      clear hK K
      try simp only [Act.put, List.setIfInBounds_toArray, List.set_cons_zero, List.set_cons_succ]
      refine wpAnyH_done (by kernel_rfl) ?_ _
      refine NoPanic.normal ?_
      go_wp2_with fail
      go_ret
      exact ⟨rfl, KE.out _ hHeld⟩
    · intro x c kl y1 y2 w10 cnt1 hkey hleft hR hat hrg1 hlt hg1 hs1 hen
      obtain ⟨b, n, rfl, rfl, hpar, hbl⟩ := DM_pair (y := (y1, y2)) hkey hR hat
      have HB10 := Lib.hid (HBr.out.grown hg1 HBr.out.size (fun k e => by cases e; exact h9))
      have HRG := Lib.hid hrg1
      have HRO := Lib.hid hrg
      clear hrg1 hrg hkey hR hat hg1 hs1 hleft HBr
      go_wp2_with fail
      refine (scan_fn b hbl _ (HW.out.g.up HB10.out).l).mono ?_
      rintro E w11 ⟨A11, c11, rfl, hT, hb⟩
      have HB11 := Lib.hid hb
      have HT := Lib.hid hT
      clear hT hb
      go_wp2_with fail
      refine (parse_calls (i := 0) (d := 0) HT.out ((HW.out.g.up HB10.out).up HB11.out).e (Nat.zero_le _) (by decide)).mono ?_
      rw [hpar]
      rintro E w12 ⟨rfl, hb⟩
      have HB12 := Lib.hid (S3.after HB11.out hb)
      clear hb HT HB11
      go_wp2_with fail
      go_roundw
      case rel => exact ⟨_, cnt1, HRG.out.kept (row := none) (grown_none (HB12.out.alloc HB12.out.size (S3.eO zE (.slice none 0 0)))) (by simp) (by simp), Lib.hid (S3.after HB10.out (HB12.out.alloc HB12.out.size (S3.eO zE (.slice none 0 0))))⟩
      case measure =>
        rw [(HRG.out.kept (row := none) (grown_none (HB12.out.alloc HB12.out.size (S3.eO zE (.slice none 0 0)))) (by simp) (by simp)).left_eq, HRO.out.left_eq]
        exact hlt
end Go.Proofs.YtoldhocdfkndbaaGreatDoor.E5

namespace Go.Proofs.YtoldhocdfkndbaaGreatDoor.E5.ops
open Go Go.RowKit Go.Proofs.YtoldhocdfkndbaaGreatDoor Go.Proofs.YtoldhocdfkndbaaGreatDoor.E5

theorem worksR : WorksR := fun w hG => works_calls w hG
theorem law (x0 : ByteArray) (x1 : Int) (_hm : x0.size ≤ 9223372036854775807) (_h1 : -9223372036854775808 ≤ x1) (_h2 : x1 ≤ 9223372036854775807) (w : World) (hG : GlobA w) :
    Calls Tryz.prog 3 #[.string x0, .int .i64 x1] w fun e w' => e = .returned (.bool true) ∧ Below w.heap.size w w' := ops_law worksR x0 x1 w hG
end Go.Proofs.YtoldhocdfkndbaaGreatDoor.E5.ops
