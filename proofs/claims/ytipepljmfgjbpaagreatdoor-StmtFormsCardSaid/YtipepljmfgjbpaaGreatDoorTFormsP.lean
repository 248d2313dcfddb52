/-
  StmtForms, the plain part: what is read of a statement's tokens between others, and of a block with it.
  StmtForms: the law. Written by gen6_forms.py.
-/
import Derived.Test.YtipepljmfgjbpaaGreatDoorTMkQ
import Derived.Test.YtipepljmfgjbpaaGreatDoorTRow
import Derived.Test.YtipepljmfgjbpaaGreatDoorTRead
import Derived.Test.YtipepljmfgjbpaaGreatDoorTWorks
import Derived.Test.YtipepljmfgjbpaaGreatDoorTEq
import Derived.BigRegion
import Derived.Deep.RegionWith
import Derived.Deep.RegionHeld3
namespace Go.Proofs.YtipepljmfgjbpaaGreatDoor.E6
open Go Go.RowKit Go.Proofs.YtipepljmfgjbpaaGreatDoor Go.Proofs.YtipepljmfgjbpaaGreatDoor.E5

theorem SIs.gn {w w' : World} {R R' : Nat → Prop} {s : St} {va vb ve : Value} (h : SIs w R s va vb ve) (hR : ∀ b, R b → R' b) (hk : ∀ b i, R b → w'.cell? ⟨b, i, none⟩ = w.cell? ⟨b, i, none⟩) : SIs w' R' s va vb ve :=
  ⟨h.ok, h.a.keep hR hk, h.b.keep hR hk, h.e.keep hR hk⟩
/-- A statement's tokens between others. -/
theorem forms_stmt {s : St} {tk front behind : TL} (h : FS 4 s tk) {d : Nat} (hd : d ≤ 16) (hb : s.kind = 9 → s.els = [] → kwAt behind 0 ≠ wElse) :
    stR (front ++ tk ++ behind) front.length d = .ok s (front.length + tk.length) := by
  have e1 : (front ++ tk ++ behind).drop front.length = tk ++ behind := by rw [List.append_assoc, List.drop_left']; rfl
  refine h.back _ _ d behind e1 (by omega) fun h1 h2 => ?_
  have : kwAt (front ++ tk ++ behind) (front.length + tk.length) = kwAt behind 0 := by
    unfold kwAt tkAt
    have e : (front ++ tk ++ behind)[front.length + tk.length]? = behind[0]? := by
      rw [List.getElem?_append_right (by rw [List.length_append]; omega)]
      congr 1
      rw [List.length_append]; omega
    rw [e]
  rw [this]
  exact hb h1 h2
/-- A block with a statement. -/
theorem forms_block {s : St} {tk behind : TL} (h : FS 4 s tk) {d : Nat} (hd : d ≤ 16) :
    blR ([(4, [123])] ++ tk ++ [(4, [125])] ++ behind) 0 d = .ok [s] (tk.length + 2) := by
  have hB : Blk 4 [(s, tk)] := by
    intro p hp
    obtain rfl := List.mem_singleton.1 hp
    exact h
  have e := bl_ok (l := [(4, [123])] ++ tk ++ [(4, [125])] ++ behind) (d := d) (deep := 4) (by omega) hB (i := 0) (post := behind) (by simp [blkT, PL.tk, tOpC, tShC])
  rw [e]
  simp [PL.st, blkT, PL.tk]
/-- The keyword at the front. -/
theorem kw_nil : kwAt [] 0 ≠ wElse := by decide
theorem kw_front {x : Int × Bytes} {r : TL} (h : ¬ (x.1 = 3 ∧ x.2 = wElse)) : kwAt (x :: r) 0 ≠ wElse := by
  unfold kwAt
  show (if x.1 = 3 then x.2 else []) ≠ wElse
  split
  · exact fun e => h ⟨by assumption, e⟩
  · decide
/-- An empty literal, as a row that may grow. -/
theorem gr_lit (W : World) : S3.GrI kA W.heap.size ([] : TL) (.slice (some ⟨W.heap.size, 0, none⟩) 0 0) (W.alloc (.cells #[] 33)) :=
  ⟨fun _ => default, ⟨rfl, .inr ⟨W.heap.size, 0, #[], rfl, Nat.le_refl _, heap_alloc_new W _, Nat.le_refl _, by unfold maxLen; omega, by rfl, by rfl⟩⟩, fun j a h => by simp at h, by rw [S3.sz1]; omega⟩

/-- Tokens put behind a row of one's own, as slices. -/
theorem cat_sl {base M : Nat} {l m : TL} {v : Value} {wr : World} {A : Option Addr} {n c : Nat} (h : S3.GrI kA base l v wr) (hm : TokL wr M (.slice A n c) m) (hl : l.length + m.length ≤ 1000000) (ty : TypeId) :
    ∃ A' c' w', (Builtin.append_ #[23, 23] ty #[v, .slice A n c]).run Tryz.prog wr = .ok (.slice A' (l.length + m.length) c') w' ∧ S3.GrI kA base (l ++ m) (.slice A' (l.length + m.length) c') w' ∧ Below base wr w' := by
  obtain ⟨v', w', h1, h2, h3⟩ := cat_run h hm hl ty
  obtain ⟨A', c', rfl, _, _⟩ := gr_cap h2
  rw [List.length_append] at h1 h2
  exact ⟨A', c', w', h1, h2, h3⟩
theorem tokUp {W W' : World} {v : Value} {l : TL} (h : TokL W W.heap.size v l) (hb : Below W.heap.size W W') : TokL W' W'.heap.size v l := (h.bel hb).keep hb.size fun _ _ _ => rfl
end Go.Proofs.YtipepljmfgjbpaaGreatDoor.E6

namespace Go.Proofs.YtipepljmfgjbpaaGreatDoor.E6
open Go Go.RowKit Go.Proofs.YtipepljmfgjbpaaGreatDoor Go.Proofs.YtipepljmfgjbpaaGreatDoor.E5

set_option maxRecDepth 100000 in
set_option maxHeartbeats 8000000 in
theorem forms_long (hWk : WorksR6) {A : Option Addr} {n c : Nat} (h2 : 200 < n) (vf vb : Value) (dp : Nat) (w : World) (hG : Glob6 w) :
    Calls Tryz.prog 3 #[.slice A n c, vf, vb, .int .u8 (dp : Int)] w fun e w' => e = .returned (.bool true) ∧ Below w.heap.size w w' := by
  have HWk := Lib.hid hWk
  have HG := Lib.hid hG
  have M := Lib.hid (made_long (W := w) (A := A) (n := n) (c := c) h2)
  clear hWk hG
  go_enter Tryz.func3, Tryz.ntmps3
  try simp only [List.append_eq, List.cons_append, List.nil_append]
  go_wp2_with fail
  refine M.out.mono ?_
  rintro E w1 ⟨rfl, hb⟩
  have HB1 := Lib.hid hb
  clear hb M
  go_wp2_with fail
  have hal := S3.bal w1 (S3.sO zS (.slice none 0 0) (.slice none 0 0) (.slice none 0 0))
  have HB2 := Lib.hid (after HB1.out hal)
  refine (HWk.out _ (HG.out.up HB2.out)).mono ?_
  rintro E w2 ⟨rfl, hb⟩
  have HB3 := Lib.hid (after HB2.out hb)
  clear hb hal
  go_wp2_with fail
  go_ret
  exact ⟨rfl, HB3.out⟩

set_option maxRecDepth 100000 in
set_option maxHeartbeats 16000000 in
theorem forms_short (hWk : WorksR6) {code : Value} {all : List Nat} {fr bh : TL} {Af Ab : Option Addr} {cf cb : Nat} (dp : Nat) (hdp : dp ≤ 255) (w : World) (hC : CodL w w.heap.size code all) (h2 : all.length ≤ 200)
    (hF : TokL w w.heap.size (.slice Af fr.length cf) fr) (hB : TokL w w.heap.size (.slice Ab bh.length cb) bh) (hG : Glob6 w) :
    Calls Tryz.prog 3 #[code, .slice Af fr.length cf, .slice Ab bh.length cb, .int .u8 (dp : Int)] w fun e w' => e = .returned (.bool true) ∧ Below w.heap.size w w' := by
  have HWk := Lib.hid hWk
  have HG := Lib.hid hG
  have M := Lib.hid (made_calls hC h2)
  have hby : Byt all := by obtain ⟨_, _, _, _, h, _⟩ := hC; exact h
  have hFS := (mkS_ok 4 25 all hby).1
  have hln := mkS_len4 25 all
  have hps := hFS.pos
  have HF := Lib.hid hF
  have HBh := Lib.hid hB
  clear hWk hG hby hF hB
  generalize mkS 4 25 all = r at *
  obtain ⟨A, c, rfl, _⟩ := hC
  obtain ⟨f0, hf0, hf15⟩ : ∃ f0 : Nat, (dp : Int) % 16 = (f0 : Int) ∧ f0 ≤ 15 := ⟨dp % 16, by omega, by omega⟩
  obtain ⟨d, hd, hd1, hd16⟩ : ∃ d : Nat, (1 : Int) + (f0 : Int) = (d : Int) ∧ 1 ≤ d ∧ d ≤ 16 := ⟨1 + f0, by omega, by omega, by omega⟩
  have hdp' : (dp : Int) ≤ 255 := by omega
  have HFS := Lib.hid hFS
  clear hFS
  go_enter Tryz.func3, Tryz.ntmps3
  try simp only [List.append_eq, List.cons_append, List.nil_append]
  go_wp2_with fail
  refine M.out.mono ?_
  rintro E w1 ⟨p, va, vb, ve, vo, rfl, hS, hI, hvo, hb⟩
  obtain ⟨g, cap, rfl, hT, hpg, hgl, hgb, hgf, hcap, hcap2⟩ := made_out hI hvo hps (by omega)
  obtain ⟨⟨Aa, ka, rfl⟩, ⟨Am, km, rfl⟩, ⟨Ae, ke, rfl⟩⟩ : (∃ A c, va = .slice A r.s.args.length c) ∧ (∃ A c, vb = .slice A r.s.body.length c) ∧ ∃ A c, ve = .slice A r.s.els.length c := ⟨hS.a.slice, hS.b.slice, hS.e.slice⟩
  have hal := S3.bal w1 (S3.sO r.s (.slice Aa r.s.args.length ka) (.slice Am r.s.body.length km) (.slice Ae r.s.els.length ke))
  have HX2 := Lib.hid (S3.SBox.new w1 r.s (.slice Aa r.s.args.length ka) (.slice Am r.s.body.length km) (.slice Ae r.s.els.length ke))
  have HB2 := Lib.hid (after hb hal)
  have HT2 := Lib.hid ((hT.bel hal).keep hal.size fun _ _ _ => rfl)
  have HS2 := Lib.hid (hS.gn (w' := w1.alloc (S3.sO r.s (.slice Aa r.s.args.length ka) (.slice Am r.s.body.length km) (.slice Ae r.s.els.length ke))) (R' := fun b => b < (w1.alloc (S3.sO r.s (.slice Aa r.s.args.length ka) (.slice Am r.s.body.length km) (.slice Ae r.s.els.length ke))).heap.size) (fun b hb => by have := hb.2.1; rw [S3.sz1]; omega) (fun b i hb => hal.cell (p := ⟨b, i, none⟩) hb.2.1))
  have hp2 : w1.heap.size < (w1.alloc (S3.sO r.s (.slice Aa r.s.args.length ka) (.slice Am r.s.body.length km) (.slice Ae r.s.els.length ke))).heap.size := by rw [S3.sz1]; omega
  clear hb hT hS M hI hvo hgf hgb hal
  by_cases q50 : fr.length ≤ 50
  case neg =>
    have q50' : (50 : Int) < (fr.length : Int) := by omega
    go_wp2_with fail
    refine (HWk.out _ (HG.out.up HB2.out)).mono ?_
    rintro E w3 ⟨rfl, hb⟩
    have HB3 := Lib.hid (after HB2.out hb)
    clear hb
    go_wp2_with fail
    go_ret
    exact ⟨rfl, HB3.out⟩
  have q50' : ¬ (50 : Int) < (fr.length : Int) := by omega
  by_cases r50 : bh.length ≤ 50
  case neg =>
    have r50' : (50 : Int) < (bh.length : Int) := by omega
    go_wp2_with fail
    refine (HWk.out _ (HG.out.up HB2.out)).mono ?_
    rintro E w3 ⟨rfl, hb⟩
    have HB3 := Lib.hid (after HB2.out hb)
    clear hb
    go_wp2_with fail
    go_ret
    exact ⟨rfl, HB3.out⟩
  have r50' : ¬ (50 : Int) < (bh.length : Int) := by omega
  go_wp2_with fail
  generalize hpa : w1.heap.size = pa at *
  generalize w1.alloc (S3.sO r.s (.slice Aa r.s.args.length ka) (.slice Am r.s.body.length km) (.slice Ae r.s.els.length ke)) = w2 at *
  refine (few_calls (tokUp HF.out HB2.out)).mono ?_
  rintro E w3 ⟨b1, rfl, _, hb⟩
  have HB3 := Lib.hid (after HB2.out hb)
  have HX3 := Lib.hid (HX2.out.keep hb hp2)
  have HT3 := Lib.hid (tokUp HT2.out hb)
  have HS3 := Lib.hid (HS2.out.gn (w' := w3) (R' := fun b => b < w3.heap.size) (fun b hx => Nat.lt_of_lt_of_le hx hb.size) (fun b i hx => hb.cell (p := ⟨b, i, none⟩) hx))
  have hp3 : pa < w3.heap.size := Nat.lt_of_lt_of_le hp2 hb.size
  clear hb HX2 HT2 HS2
  cases b1 with
  | false =>
    go_wp2_with fail
    refine (HWk.out _ (HG.out.up HB3.out)).mono ?_
    rintro E w4 ⟨rfl, hb⟩
    have HB4 := Lib.hid (after HB3.out hb)
    clear hb
    go_wp2_with fail
    go_ret
    exact ⟨rfl, HB4.out⟩
  | true =>
  go_wp2_with fail
  refine (few_calls (tokUp HBh.out HB3.out)).mono ?_
  rintro E w4 ⟨b2, rfl, _, hb⟩
  have HB4 := Lib.hid (after HB3.out hb)
  have HX4 := Lib.hid (HX3.out.keep hb hp3)
  have HT4 := Lib.hid (tokUp HT3.out hb)
  have HS4 := Lib.hid (HS3.out.gn (w' := w4) (R' := fun b => b < w4.heap.size) (fun b hx => Nat.lt_of_lt_of_le hx hb.size) (fun b i hx => hb.cell (p := ⟨b, i, none⟩) hx))
  have hp4 : pa < w4.heap.size := Nat.lt_of_lt_of_le hp3 hb.size
  clear hb HX3 HT3 HS3
  cases b2 with
  | false =>
    go_wp2_with fail
    refine (HWk.out _ (HG.out.up HB4.out)).mono ?_
    rintro E w5 ⟨rfl, hb⟩
    have HB5 := Lib.hid (after HB4.out hb)
    clear hb
    go_wp2_with fail
    go_ret
    exact ⟨rfl, HB5.out⟩
  | true =>
  have hF4 := tokUp HF.out HB4.out
  have hB4 := tokUp HBh.out HB4.out
  have hal := S3.bal w4 (.cells #[] 33)
  obtain ⟨A1, c1, w5, r1, G1, b1⟩ := cat_sl (gr_lit w4) (tokUp hF4 hal) (by simp only [List.length_nil]; omega) 23
  rw [List.length_nil, Nat.zero_add] at r1 G1
  rw [List.nil_append] at G1
  have hb5 : Below w4.heap.size w4 w5 := hal.trans b1
  obtain ⟨A2, c2, w6, r2, G2, b2⟩ := cat_sl G1 (tokUp HT4.out hb5) (by omega) 23
  have hb6 : Below w4.heap.size w4 w6 := hb5.trans b2
  obtain ⟨x0, x1, x2, x3, x4, x5, x6, x7⟩ := HX4.out.keep hb6 hp4
  have R1 := Lib.hid r1
  have R2 := Lib.hid r2
  have HG2 := Lib.hid G2
  have HC6 := Lib.hid hb6
  have HB4h := Lib.hid hB4
  have hwz : w.heap.size ≤ w4.heap.size := HB4.out.size
  have qend : ((fr.length + r.tk.length : Nat) : Int) ≤ 9223372036854775807 := by omega
  have hdep : depS d = d := by unfold depS; rw [if_neg (by omega)]
  have HDEP := Lib.hid hdep
  have qe0 : (((fr.length : Int) + (r.tk.length : Int)) != ((fr.length : Int) + (r.tk.length : Int))) = false := by simp
  clear hF4 hal r1 r2 G1 G2 b1 b2 hb5 hb6 HF HBh hdep hB4
  by_cases k9 : r.s.kind = 9
  rotate_left 1
  have k9' : (r.s.kind == 9) = false := by simpa using k9
  obtain ⟨A3, c3, w7, r3, G3, b3⟩ := cat_sl HG2.out ((HB4h.out.bel HC6.out).keep HC6.out.size fun _ _ _ => rfl) (by rw [List.length_append]; omega) 23
  have HNO := Lib.hid (fun (h1 : r.s.kind = 9) (_ : r.s.els = []) => (absurd h1 k9 : kwAt bh 0 ≠ wElse))
  have HBT := HB4h
  clear k9 HB4h
  rotate_right 1
  have k9' : (r.s.kind == 9) = true := by rw [k9]; rfl
  by_cases e0 : r.s.els = []
  rotate_left 1
  have e0' : ((r.s.els.length : Int) == 0) = false := by
    have : r.s.els.length ≠ 0 := fun h => e0 (List.eq_nil_of_length_eq_zero h)
    simpa using (by omega : ¬ (r.s.els.length : Int) = 0)
  obtain ⟨A3, c3, w7, r3, G3, b3⟩ := cat_sl HG2.out ((HB4h.out.bel HC6.out).keep HC6.out.size fun _ _ _ => rfl) (by rw [List.length_append]; omega) 23
  have HNO := Lib.hid (fun (_ : r.s.kind = 9) (h2 : r.s.els = []) => (absurd h2 e0 : kwAt bh 0 ≠ wElse))
  have HBT := HB4h
  have K9 := Lib.hid k9
  clear k9 e0 HB4h
  rotate_right 1
  have e0' : ((r.s.els.length : Int) == 0) = true := by rw [e0]; rfl
  have K9 := Lib.hid k9
  have E0 := Lib.hid e0
  clear k9 e0
  by_cases l0 : ¬ bh.length = 0
  rotate_left 1
  have l0 : bh.length = 0 := by omega
  have l0' : ¬ (0 : Int) < (bh.length : Int) := by omega
  obtain ⟨A3, c3, w7, r3, G3, b3⟩ := cat_sl HG2.out ((HB4h.out.bel HC6.out).keep HC6.out.size fun _ _ _ => rfl) (by rw [List.length_append]; omega) 23
  have HNO := Lib.hid (fun (_ : r.s.kind = 9) (_ : r.s.els = []) => (by rw [List.eq_nil_of_length_eq_zero l0]; exact kw_nil : kwAt bh 0 ≠ wElse))
  have HBT := HB4h
  clear l0 HB4h
  rotate_right 1
  have l0' : (0 : Int) < (bh.length : Int) := by omega
  obtain ⟨x, hx⟩ : ∃ x, bh[0]? = some x := ⟨_, List.getElem?_eq_getElem (by omega)⟩
  have hkw : kwAt bh 0 = if x.1 = 3 then x.2 else [] := by unfold kwAt tkAt; rw [hx]; rfl
  obtain ⟨bb, ob', rfl, z0, z1, hx2⟩ : ∃ bb ob, Ab = some ⟨bb, ob, none⟩ ∧ w6.cell? ⟨bb, ob, none⟩ = some (.int .i64 x.1) ∧ w6.cell? ⟨bb, ob + 1, none⟩ = some (.string (B x.2)) ∧ x.2.length ≤ 9223372036854775807 := by
    obtain ⟨A', c', e1, _, hel⟩ := HB4h.out
    cases e1
    obtain ⟨q0, b', o', a, e1, e2, d0, d1, _⟩ := hel 0 x hx
    rw [Nat.zero_mul, Nat.add_zero] at d0 d1
    exact ⟨b', o', e1, (HC6.out.cell (p := ⟨b', o', none⟩) e2).trans d0, (HC6.out.cell (p := ⟨b', o' + 1, none⟩) e2).trans d1, q0⟩
  have HKW := Lib.hid hkw
  clear hkw hx
  by_cases t3 : x.1 = 3
  rotate_left 1
  have t3' : (x.1 == 3) = false := by simpa using t3
  obtain ⟨A3, c3, w7, r3, G3, b3⟩ := cat_sl HG2.out ((HB4h.out.bel HC6.out).keep HC6.out.size fun _ _ _ => rfl) (by rw [List.length_append]; omega) 23
  have HNO := Lib.hid (fun (_ : r.s.kind = 9) (_ : r.s.els = []) => (by rw [HKW.out, if_neg t3]; decide : kwAt bh 0 ≠ wElse))
  have HBT := HB4h
  clear t3 HB4h
  rotate_right 1
  have t3' : (x.1 == 3) = true := by rw [t3]; rfl
  by_cases t4 : x.2 = wElse
  rotate_left 1
  have t4a : (x.2 == [101, 108, 115, 101]) = false := by
    rw [Bool.eq_false_iff]
    exact fun h => t4 ((eq_of_beq h).trans (by decide))
  have t4b : (x.2.toArray == #[101, 108, 115, 101]) = false := by
    rw [Bool.eq_false_iff]
    exact fun h => t4 ((by simpa using congrArg Array.toList (eq_of_beq h) : x.2 = [101, 108, 115, 101]).trans (by decide))
  have t4c : ¬ (x.2 = [101, 108, 115, 101]) := fun h => t4 (h.trans (by decide))
  obtain ⟨A3, c3, w7, r3, G3, b3⟩ := cat_sl HG2.out ((HB4h.out.bel HC6.out).keep HC6.out.size fun _ _ _ => rfl) (by rw [List.length_append]; omega) 23
  have HNO := Lib.hid (fun (_ : r.s.kind = 9) (_ : r.s.els = []) => (by rw [HKW.out, if_pos t3]; exact t4 : kwAt bh 0 ≠ wElse))
  have HBT := HB4h
  clear t3 t4 HB4h
  rotate_right 1
  have t4a : (x.2 == [101, 108, 115, 101]) = true := by rw [t4]; decide
  have t4b : (x.2.toArray == #[101, 108, 115, 101]) = true := by rw [t4]; decide
  have hTn : ∀ W : World, TokL W W.heap.size (.slice none 0 0) ([] : TL) := fun W => ⟨none, 0, rfl, by decide, fun i t h => by simp at h⟩
  obtain ⟨A3, c3, w7, r3, G3, b3⟩ := cat_sl HG2.out (hTn w6) (by rw [List.length_append, List.length_nil]; omega) 23
  rw [List.length_nil, Nat.add_zero] at r3 G3
  have HNO := Lib.hid (fun (_ : r.s.kind = 9) (_ : r.s.els = []) => kw_nil)
  have HBT := Lib.hid (hTn w4)
  clear t3 t4 hTn HB4h
  all_goals
    rw [List.length_append] at r3 G3
    have R3 := Lib.hid r3
    have HT7 := Lib.hid (tokL_grA G3 (by first | (rw [List.append_nil, List.length_append]; omega) | (rw [List.length_append, List.length_append]; omega)))
    have HC7 := Lib.hid (HC6.out.trans b3)
    clear r3 G3 b3 HG2 HC6
    go_wp2_with (at_builtin; first | (refine Lib.wpList_append_run _ rfl _ _ _ _ rfl _ _ rfl rfl _ _ R1.out ?_; clear R1) | (refine Lib.wpList_append_run _ rfl _ _ _ _ rfl _ _ rfl rfl _ _ R2.out ?_; clear R2) | (refine Lib.wpList_append_run _ rfl _ _ _ _ rfl _ _ rfl rfl _ _ R3.out ?_; clear R3))
    have hP := sparse_calls (d := d) (i := fr.length) HT7.out (HG.out.up (HB4.out.trans (HC7.out.mono hwz))).e (by first | (rw [List.append_nil, List.length_append]; omega) | (rw [List.length_append, List.length_append]; omega)) (HG.out.up (HB4.out.trans (HC7.out.mono hwz))).g (by first | (rw [List.append_nil, List.length_append]; omega) | (rw [List.length_append, List.length_append]; omega)) hd1
    rw [HDEP.out, forms_stmt HFS.out hd16 HNO.out] at hP
    refine hP.mono ?_
    clear hP
    rintro E w8 ⟨xa, xb, xe, rfl, hI1, hb⟩
    obtain ⟨Ba, da, rfl⟩ := hI1.a.slice
    obtain ⟨Bb, db, rfl⟩ := hI1.b.slice
    obtain ⟨Be, de, rfl⟩ := hI1.e.slice
    have hz7 := HC7.out.size
    have hz8 := hb.size
    have HC8 := Lib.hid (HC7.out.trans (hb.mono hz7))
    have hal := S3.bal w8 (S3.sO r.s (.slice Ba r.s.args.length da) (.slice Bb r.s.body.length db) (.slice Be r.s.els.length de))
    have HC9 := Lib.hid (HC8.out.trans (hal.mono (by omega)))
    obtain ⟨x0, x1, x2, x3, x4, x5, x6, x7⟩ := HX4.out.keep HC8.out hp4
    have hp8 : pa < w8.heap.size := by omega
    have hp8' : pa ≠ w8.heap.size := by omega
    have hs9 := HS4.out.gn (w' := w8.alloc (S3.sO r.s (.slice Ba r.s.args.length da) (.slice Bb r.s.body.length db) (.slice Be r.s.els.length de))) (R' := fun b => b < (w8.alloc (S3.sO r.s (.slice Ba r.s.args.length da) (.slice Bb r.s.body.length db) (.slice Be r.s.els.length de))).heap.size) (fun b hx => Nat.lt_of_lt_of_le hx HC9.out.size) (fun b i hx => HC9.out.cell (p := ⟨b, i, none⟩) hx)
    have hg9 := hI1.gn (w' := w8.alloc (S3.sO r.s (.slice Ba r.s.args.length da) (.slice Bb r.s.body.length db) (.slice Be r.s.els.length de))) (R' := fun b => b < (w8.alloc (S3.sO r.s (.slice Ba r.s.args.length da) (.slice Bb r.s.body.length db) (.slice Be r.s.els.length de))).heap.size) (fun b hx => Nat.lt_of_lt_of_le hx.2 hal.size) (fun b i hx => hal.cell (p := ⟨b, i, none⟩) hx.2)
    have CE := exactC_calls r.s r.s (.slice Ba r.s.args.length da) (.slice Bb r.s.body.length db) (.slice Be r.s.els.length de) (.slice Aa r.s.args.length ka) (.slice Am r.s.body.length km) (.slice Ae r.s.els.length ke) _ hg9.a hg9.b hg9.e hs9.a hs9.b hs9.e
    rw [eqX_iff.2 rfl] at CE
    have CE := Lib.hid CE
    clear hb hI1 hal hs9 hg9 HT7 HC7
    go_wp2_with fail
    refine CE.out.mono ?_
    rintro E w10 ⟨rfl, hb⟩
    have hz9 := HC9.out.size
    have HC10 := Lib.hid (HC9.out.trans (hb.mono hz9))
    have hz10 := HC10.out.size
    clear hb CE HC8 HC9 x0 x1 x2 x3 x4 x5 x6 x7 hp8 hp8' hz8 hz9
    go_wp2_with fail
    refine (tok_op w10).mono ?_
    rintro E w11 ⟨A4, c4, rfl, G4, _, hb⟩
    have hz11 := hb.size
    have HC11 := Lib.hid (HC10.out.trans (hb.mono hz10))
    obtain ⟨A5, c5, w12, r5, G5, b5⟩ := cat_sl G4 ((HT4.out.bel HC11.out).keep HC11.out.size fun _ _ _ => rfl) (by simp only [List.length_cons, List.length_nil]; omega) 23
    have hz12 := b5.size
    have HC12 := Lib.hid (HC11.out.trans (b5.mono (by omega)))
    have R5 := Lib.hid r5
    have HG5 := Lib.hid G5
    clear hb G4 r5 G5 b5 HC10 HC11
    simp only [List.length_cons, List.length_nil, Nat.zero_add] at R5 HG5
    go_wp2_with (at_builtin; first | (refine Lib.wpList_append_run _ rfl _ _ _ _ rfl _ _ rfl rfl _ _ R5.out ?_; clear R5))
    refine (tok_sh w12).mono ?_
    rintro E w13 ⟨A6, c6, rfl, _, T6, hb⟩
    have hz12' := HC12.out.size
    have HC13 := Lib.hid (HC12.out.trans (hb.mono hz12'))
    obtain ⟨A7, c7, w14, r7, G7, b7⟩ := cat_sl (HG5.out.bel hb) T6 (by simp only [List.length_append, List.length_cons, List.length_nil]; omega) 23
    have HC14 := Lib.hid (HC13.out.trans (b7.mono (by omega)))
    obtain ⟨A8, c8, w15, r8, G8, b8⟩ := cat_sl G7 ((HBT.out.bel HC14.out).keep HC14.out.size fun _ _ _ => rfl) (by simp only [List.length_append, List.length_cons, List.length_nil]; omega) 23
    have HC15 := Lib.hid (HC14.out.trans (b8.mono (by omega)))
    have R7 := Lib.hid r7
    have R8 := Lib.hid r8
    have HT15 := Lib.hid (tokL_grA G8 (by simp only [List.length_append, List.length_cons, List.length_nil]; omega))
    simp only [List.length_append, List.length_cons, List.length_nil, Nat.zero_add] at R7 R8 HT15
    clear hb r7 r8 G7 G8 b7 b8 T6 HG5 HC12 HC13 HC14
    go_wp2_with (at_builtin; first | (refine Lib.wpList_append_run _ rfl _ _ _ _ rfl _ _ rfl rfl _ _ R7.out ?_; clear R7) | (refine Lib.wpList_append_run _ rfl _ _ _ _ rfl _ _ rfl rfl _ _ R8.out ?_; clear R8))
    have hP := sblock_calls (d := d) (i := 0) HT15.out (HG.out.up (HB4.out.trans (HC15.out.mono hwz))).e (Nat.zero_le _) (HG.out.up (HB4.out.trans (HC15.out.mono hwz))).g (by simp only [List.length_append, List.length_cons, List.length_nil]; omega) hd1
    rw [HDEP.out, forms_block HFS.out hd16] at hP
    refine hP.mono ?_
    clear hP
    rintro E w16 ⟨A9, c9, rfl, hSR, hb⟩
    have hz15 := HC15.out.size
    have hz16 := hb.size
    have HC16 := Lib.hid (HC15.out.trans (hb.mono hz15))
    have hsi : S3.SIn w16 w16.heap.size [r.s] (.slice A9 [r.s].length c9) := hSR.keep (fun _ hx => hx.2) fun _ _ _ => rfl
    obtain ⟨bk, ob, ya, yb, ye, rfl, hbl, _, hcs, hya, hyb, hye⟩ := hsi.at_.2 0 (by simp)
    obtain ⟨Ya, ja, rfl⟩ := hya.slice
    obtain ⟨Yb, jb, rfl⟩ := hyb.slice
    obtain ⟨Ye, je, rfl⟩ := hye.slice
    simp only [List.getElem_cons_zero, Nat.zero_mul, Nat.add_zero] at hcs hya hyb hye
    obtain ⟨y0, y1, y2, y3, y4, y5, y6, y7⟩ := hcs
    obtain ⟨x0, x1, x2, x3, x4, x5, x6, x7⟩ := HX4.out.keep HC16.out hp4
    have hp16 : pa < w16.heap.size := by have := HC16.out.size; omega
    have hs16 := HS4.out.gn (w' := w16) (R' := fun b => b < w16.heap.size) (fun b hx => Nat.lt_of_lt_of_le hx HC16.out.size) (fun b i hx => HC16.out.cell (p := ⟨b, i, none⟩) hx)
    have HYA := Lib.hid hya
    have HYB := Lib.hid hyb
    have HYE := Lib.hid hye
    have HS16 := Lib.hid hs16
    clear hb hSR hsi hya hyb hye hs16 HT15 HC15
    go_wp2_with fail
    have CS := fun W (h : Below w16.heap.size w16 W) => exactC_calls r.s r.s (.slice Ya r.s.args.length ja) (.slice Yb r.s.body.length jb) (.slice Ye r.s.els.length je) (.slice Aa r.s.args.length ka) (.slice Am r.s.body.length km) (.slice Ae r.s.els.length ke) W (HYA.out.up h) (HYB.out.up h) (HYE.out.up h) (S3.EIn.up HS16.out.a h) (S3.SIn.up HS16.out.b h) (S3.SIn.up HS16.out.e h)
    have e1 : eqX r.s r.s = true := eqX_iff.2 rfl
    simp only [e1] at CS
    have CS := Lib.hid CS
    clear e1
    have HB16 := Lib.hid (HB4.out.trans (HC16.out.mono hwz))
    have qa : (((r.tk.length : Int) + 2) == ((r.tk.length : Int) + 2)) = true := by simp
    clear HYA HYB HYE HS16 HC16 HX4 HS4 HT4 HBT
    have qw2 : IntKind.i64.wrap ((r.tk.length : Int) + 2) = (r.tk.length : Int) + 2 := IntWalk.i64_in _ (by omega)
    have hS0 : Hid (Below w16.heap.size w16 w16.drew) := Lib.hid (Below.refl _ _).drew
    have qx0 := fun (W1 : World) (h : Hid (Below w16.heap.size w16 W1)) => (h.out.cell (p := ⟨pa, 0, none⟩) hp16).trans x0
    have qx1 := fun (W1 : World) (h : Hid (Below w16.heap.size w16 W1)) => (h.out.cell (p := ⟨pa, 1, none⟩) hp16).trans x1
    have qx2 := fun (W1 : World) (h : Hid (Below w16.heap.size w16 W1)) => (h.out.cell (p := ⟨pa, 2, none⟩) hp16).trans x2
    have qx3 := fun (W1 : World) (h : Hid (Below w16.heap.size w16 W1)) => (h.out.cell (p := ⟨pa, 3, none⟩) hp16).trans x3
    have qx4 := fun (W1 : World) (h : Hid (Below w16.heap.size w16 W1)) => (h.out.cell (p := ⟨pa, 4, none⟩) hp16).trans x4
    have qx5 := fun (W1 : World) (h : Hid (Below w16.heap.size w16 W1)) => (h.out.cell (p := ⟨pa, 5, none⟩) hp16).trans x5
    have qx6 := fun (W1 : World) (h : Hid (Below w16.heap.size w16 W1)) => (h.out.cell (p := ⟨pa, 6, none⟩) hp16).trans x6
    have qx7 := fun (W1 : World) (h : Hid (Below w16.heap.size w16 W1)) => (h.out.cell (p := ⟨pa, 7, none⟩) hp16).trans x7
    have qy0 := fun (W1 : World) (h : Hid (Below w16.heap.size w16 W1)) => (h.out.cell (p := ⟨bk, ob, none⟩) hbl).trans y0
    have qy1 := fun (W1 : World) (h : Hid (Below w16.heap.size w16 W1)) => (h.out.cell (p := ⟨bk, ob + 1, none⟩) hbl).trans y1
    have qy2 := fun (W1 : World) (h : Hid (Below w16.heap.size w16 W1)) => (h.out.cell (p := ⟨bk, ob + 2, none⟩) hbl).trans y2
    have qy3 := fun (W1 : World) (h : Hid (Below w16.heap.size w16 W1)) => (h.out.cell (p := ⟨bk, ob + 3, none⟩) hbl).trans y3
    have qy4 := fun (W1 : World) (h : Hid (Below w16.heap.size w16 W1)) => (h.out.cell (p := ⟨bk, ob + 4, none⟩) hbl).trans y4
    have qy5 := fun (W1 : World) (h : Hid (Below w16.heap.size w16 W1)) => (h.out.cell (p := ⟨bk, ob + 5, none⟩) hbl).trans y5
    have qy6 := fun (W1 : World) (h : Hid (Below w16.heap.size w16 W1)) => (h.out.cell (p := ⟨bk, ob + 6, none⟩) hbl).trans y6
    have qy7 := fun (W1 : World) (h : Hid (Below w16.heap.size w16 W1)) => (h.out.cell (p := ⟨bk, ob + 7, none⟩) hbl).trans y7
    refine wp_region_noPanic ?_
    refine wp_region_held_drew (S := fun (W1 : World) => Hid (Below w16.heap.size w16 W1)) (by kernel_rfl) hS0 (fun hHeld => ?_)
    refine wpAnyH_ready (rs := [0]) (by as_aux_lemma => kernel_rfl) (List.cons_ne_nil _ _) ?_
    refine AllReadyH.cons (o := { dst := some 131, op := Go.Op.move (Go.Operand.tmp 21), type := 34, pos := "outright.go:205", after := #[], guard := none }) rfl (fun K hK => ?_) AllReadyH.nil
    go_simp
    refine hK.out _ _ hHeld (fun _ => ?_)
    clear hK K
    try simp only [Act.put, List.setIfInBounds_toArray, List.set_cons_zero, List.set_cons_succ]
    refine wpAnyH_ready (rs := [1]) (by as_aux_lemma => kernel_rfl) (List.cons_ne_nil _ _) ?_
    refine AllReadyH.cons (o := { dst := some 132, op := Go.Op.binOp Go.BinOp.eql 34 (Go.Operand.tmp 131) (Go.Operand.const (Go.Value.int Go.IntKind.i64 0)) 34, type := 4, pos := "outright.go:205", after := #[{ on := 0, ground := Go.Ground.data }], guard := none }) rfl (fun K hK => ?_) AllReadyH.nil
    go_simp
    refine hK.out _ _ hHeld (fun _ => ?_)
    clear hK K
    try simp only [Act.put, List.setIfInBounds_toArray, List.set_cons_zero, List.set_cons_succ]
    refine wpAnyH_ready (rs := [2]) (by as_aux_lemma => kernel_rfl) (List.cons_ne_nil _ _) ?_
    refine AllReadyH.cons (o := { dst := some 133, op := Go.Op.move (Go.Operand.tmp 132), type := 4, pos := "outright.go:205", after := #[{ on := 1, ground := Go.Ground.data }], guard := none }) rfl (fun K hK => ?_) AllReadyH.nil
    go_simp
    refine hK.out _ _ hHeld (fun _ => ?_)
    clear hK K
    try simp only [Act.put, List.setIfInBounds_toArray, List.set_cons_zero, List.set_cons_succ]
    refine wpAnyH_take (i := 3) (oi := { dst := some 134, op := Go.Op.move (Go.Operand.tmp 20), type := 3, pos := "outright.go:205", after := #[{ on := 2, ground := Go.Ground.guard }], guard := some (2, true) }) (v := ?_) rfl (by as_aux_lemma => kernel_rfl) (by as_aux_lemma => kernel_rfl) (by as_aux_lemma => kernel_rfl) (fun _ _ _ h => h) (Or.inl ⟨by rfl, ?_⟩) hHeld ?_
    rotate_left
    · (intro w hSw; (try dsimp only at hSw); go_simp; try with_reducible rfl)
    try simp only [Act.put, List.setIfInBounds_toArray, List.set_cons_zero, List.set_cons_succ]
    refine wpAnyH_ready (rs := [4]) (by as_aux_lemma => kernel_rfl) (List.cons_ne_nil _ _) ?_
    refine AllReadyH.cons (o := { dst := some 135, op := Go.Op.move (Go.Operand.tmp 10), type := 23, pos := "outright.go:205", after := #[{ on := 2, ground := Go.Ground.guard }], guard := some (2, true) }) rfl (fun K hK => ?_) AllReadyH.nil
    go_simp
    refine hK.out _ _ hHeld (fun _ => ?_)
    clear hK K
    try simp only [Act.put, List.setIfInBounds_toArray, List.set_cons_zero, List.set_cons_succ]
    refine wpAnyH_ready (rs := [5]) (by as_aux_lemma => kernel_rfl) (List.cons_ne_nil _ _) ?_
    refine AllReadyH.cons (o := { dst := some 136, op := Go.Op.call { callee := Go.Callee.builtin Go.Builtin.len, args := #[Go.Operand.tmp 135], argTypes := #[23] }, type := 3, pos := "outright.go:205", after := #[{ on := 4, ground := Go.Ground.data }, { on := 2, ground := Go.Ground.guard }], guard := some (2, true) }) rfl (fun K hK => ?_) AllReadyH.nil
    go_simp
    refine hK.out _ _ hHeld (fun _ => ?_)
    clear hK K
    try simp only [Act.put, List.setIfInBounds_toArray, List.set_cons_zero, List.set_cons_succ]
    refine wpAnyH_ready (rs := [6]) (by as_aux_lemma => kernel_rfl) (List.cons_ne_nil _ _) ?_
    refine AllReadyH.cons (o := { dst := some 137, op := Go.Op.binOp Go.BinOp.add 3 (Go.Operand.tmp 136) (Go.Operand.const (Go.Value.int Go.IntKind.i64 2)) 3, type := 3, pos := "outright.go:205", after := #[{ on := 5, ground := Go.Ground.data }, { on := 2, ground := Go.Ground.guard }], guard := some (2, true) }) rfl (fun K hK => ?_) AllReadyH.nil
    go_simp
    refine hK.out _ _ hHeld (fun _ => ?_)
    clear hK K
    try simp only [Act.put, List.setIfInBounds_toArray, List.set_cons_zero, List.set_cons_succ]
    refine wpAnyH_ready (rs := [7]) (by as_aux_lemma => kernel_rfl) (List.cons_ne_nil _ _) ?_
    refine AllReadyH.cons (o := { dst := some 138, op := Go.Op.binOp Go.BinOp.eql 3 (Go.Operand.tmp 134) (Go.Operand.tmp 137) 3, type := 4, pos := "outright.go:205", after := #[{ on := 3, ground := Go.Ground.data }, { on := 6, ground := Go.Ground.data }, { on := 2, ground := Go.Ground.guard }], guard := some (2, true) }) rfl (fun K hK => ?_) AllReadyH.nil
    go_simp
    refine hK.out _ _ hHeld (fun _ => ?_)
    clear hK K
    try simp only [Act.put, List.setIfInBounds_toArray, List.set_cons_zero, List.set_cons_succ]
    refine wpAnyH_ready (rs := [8]) (by as_aux_lemma => kernel_rfl) (List.cons_ne_nil _ _) ?_
    refine AllReadyH.cons (o := { dst := some 139, op := Go.Op.pick (Go.Operand.tmp 133) (Go.Operand.tmp 138) (Go.Operand.const (Go.Value.bool false)), type := 4, pos := "outright.go:205", after := #[{ on := 2, ground := Go.Ground.data }, { on := 7, ground := Go.Ground.data }], guard := none }) rfl (fun K hK => ?_) AllReadyH.nil
    go_simp
    refine hK.out _ _ hHeld (fun _ => ?_)
    clear hK K
    try simp only [Act.put, List.setIfInBounds_toArray, List.set_cons_zero, List.set_cons_succ]
    refine wpAnyH_ready (rs := [9]) (by as_aux_lemma => kernel_rfl) (List.cons_ne_nil _ _) ?_
    refine AllReadyH.cons (o := { dst := some 140, op := Go.Op.move (Go.Operand.tmp 139), type := 4, pos := "outright.go:205", after := #[{ on := 8, ground := Go.Ground.data }, { on := 2, ground := Go.Ground.chain }], guard := none }) rfl (fun K hK => ?_) AllReadyH.nil
    go_simp
    refine hK.out _ _ hHeld (fun _ => ?_)
    clear hK K
    try simp only [Act.put, List.setIfInBounds_toArray, List.set_cons_zero, List.set_cons_succ]
    refine wpAnyH_ready (rs := [10]) (by as_aux_lemma => kernel_rfl) (List.cons_ne_nil _ _) ?_
    refine AllReadyH.cons (o := { dst := some 141, op := Go.Op.move (Go.Operand.tmp 19), type := 25, pos := "outright.go:205", after := #[{ on := 9, ground := Go.Ground.guard }], guard := some (9, true) }) rfl (fun K hK => ?_) AllReadyH.nil
    go_simp
    refine hK.out _ _ hHeld (fun _ => ?_)
    clear hK K
    try simp only [Act.put, List.setIfInBounds_toArray, List.set_cons_zero, List.set_cons_succ]
    refine wpAnyH_ready (rs := [11]) (by as_aux_lemma => kernel_rfl) (List.cons_ne_nil _ _) ?_
    refine AllReadyH.cons (o := { dst := some 142, op := Go.Op.call { callee := Go.Callee.builtin Go.Builtin.len, args := #[Go.Operand.tmp 141], argTypes := #[25] }, type := 3, pos := "outright.go:205", after := #[{ on := 10, ground := Go.Ground.data }, { on := 9, ground := Go.Ground.guard }], guard := some (9, true) }) rfl (fun K hK => ?_) AllReadyH.nil
    go_simp
    refine hK.out _ _ hHeld (fun _ => ?_)
    clear hK K
    try simp only [Act.put, List.setIfInBounds_toArray, List.set_cons_zero, List.set_cons_succ]
    refine wpAnyH_ready (rs := [12]) (by as_aux_lemma => kernel_rfl) (List.cons_ne_nil _ _) ?_
    refine AllReadyH.cons (o := { dst := some 143, op := Go.Op.binOp Go.BinOp.eql 3 (Go.Operand.tmp 142) (Go.Operand.const (Go.Value.int Go.IntKind.i64 1)) 3, type := 4, pos := "outright.go:205", after := #[{ on := 11, ground := Go.Ground.data }, { on := 9, ground := Go.Ground.guard }], guard := some (9, true) }) rfl (fun K hK => ?_) AllReadyH.nil
    go_simp
    refine hK.out _ _ hHeld (fun _ => ?_)
    clear hK K
    try simp only [Act.put, List.setIfInBounds_toArray, List.set_cons_zero, List.set_cons_succ]
    refine wpAnyH_ready (rs := [13]) (by as_aux_lemma => kernel_rfl) (List.cons_ne_nil _ _) ?_
    refine AllReadyH.cons (o := { dst := some 144, op := Go.Op.pick (Go.Operand.tmp 140) (Go.Operand.tmp 143) (Go.Operand.const (Go.Value.bool false)), type := 4, pos := "outright.go:205", after := #[{ on := 9, ground := Go.Ground.data }, { on := 12, ground := Go.Ground.data }], guard := none }) rfl (fun K hK => ?_) AllReadyH.nil
    go_simp
    refine hK.out _ _ hHeld (fun _ => ?_)
    clear hK K
    try simp only [Act.put, List.setIfInBounds_toArray, List.set_cons_zero, List.set_cons_succ]
    refine wpAnyH_ready (rs := [14]) (by as_aux_lemma => kernel_rfl) (List.cons_ne_nil _ _) ?_
    refine AllReadyH.cons (o := { dst := some 145, op := Go.Op.move (Go.Operand.tmp 144), type := 4, pos := "outright.go:205", after := #[{ on := 13, ground := Go.Ground.data }, { on := 9, ground := Go.Ground.chain }], guard := none }) rfl (fun K hK => ?_) AllReadyH.nil
    go_simp
    refine hK.out _ _ hHeld (fun _ => ?_)
    clear hK K
    try simp only [Act.put, List.setIfInBounds_toArray, List.set_cons_zero, List.set_cons_succ]
    refine wpAnyH_take (i := 18) (oi := { dst := some 149, op := Go.Op.load 27 (Go.Operand.tmp 9), type := 27, pos := "outright.go:205", after := #[{ on := 14, ground := Go.Ground.guard }], guard := some (14, true) }) (v := ?_) rfl (by as_aux_lemma => kernel_rfl) (by as_aux_lemma => kernel_rfl) (by as_aux_lemma => kernel_rfl) (fun _ _ _ h => h) (Or.inl ⟨by rfl, ?_⟩) hHeld ?_
    rotate_left
    · (intro w hSw; (try dsimp only at hSw); go_simp; try with_reducible rfl)
    try simp only [Act.put, List.setIfInBounds_toArray, List.set_cons_zero, List.set_cons_succ]
    refine wpAnyH_ready (rs := [15]) (by as_aux_lemma => kernel_rfl) (List.cons_ne_nil _ _) ?_
    refine AllReadyH.cons (o := { dst := some 146, op := Go.Op.move (Go.Operand.tmp 19), type := 25, pos := "outright.go:205", after := #[{ on := 14, ground := Go.Ground.guard }], guard := some (14, true) }) rfl (fun K hK => ?_) AllReadyH.nil
    go_simp
    refine hK.out _ _ hHeld (fun _ => ?_)
    clear hK K
    try simp only [Act.put, List.setIfInBounds_toArray, List.set_cons_zero, List.set_cons_succ]
    refine wpAnyH_ready (rs := [16]) (by as_aux_lemma => kernel_rfl) (List.cons_ne_nil _ _) ?_
    refine AllReadyH.cons (o := { dst := some 147, op := Go.Op.indexAddr 25 (Go.Operand.tmp 146) (Go.Operand.const (Go.Value.int Go.IntKind.i64 0)), type := 0, pos := "outright.go:205", after := #[{ on := 15, ground := Go.Ground.data }, { on := 14, ground := Go.Ground.guard }], guard := some (14, true) }) rfl (fun K hK => ?_) AllReadyH.nil
    go_simp
    refine hK.out _ _ hHeld (fun _ => ?_)
    clear hK K
    try simp only [Act.put, List.setIfInBounds_toArray, List.set_cons_zero, List.set_cons_succ]
    refine wpAnyH_ready (rs := [17]) (by as_aux_lemma => kernel_rfl) (List.cons_ne_nil _ _) ?_
    refine AllReadyH.cons (o := { dst := some 148, op := Go.Op.load 27 (Go.Operand.tmp 147), type := 27, pos := "outright.go:205", after := #[{ on := 16, ground := Go.Ground.data }, { on := 14, ground := Go.Ground.guard }], guard := some (14, true) }) rfl (fun K hK => ?_) AllReadyH.nil
    go_simp
    refine hK.out _ _ hHeld (fun _ => ?_)
    clear hK K
    try simp only [Act.put, List.setIfInBounds_toArray, List.set_cons_zero, List.set_cons_succ]
    refine wpAnyH_ready (rs := [19]) (by as_aux_lemma => kernel_rfl) (List.cons_ne_nil _ _) ?_
    refine AllReadyH.cons (o := { dst := some 150, op := Go.Op.call { callee := Go.Callee.value (Go.Operand.func 9), args := #[Go.Operand.tmp 148, Go.Operand.tmp 149], argTypes := #[27, 27] }, type := 4, pos := "outright.go:205", after := #[{ on := 17, ground := Go.Ground.data }, { on := 18, ground := Go.Ground.data }, { on := 14, ground := Go.Ground.chain }, { on := 14, ground := Go.Ground.guard }], guard := some (14, true) }) rfl (fun K hK => ?_) AllReadyH.nil
    go_simp
    refine (CS.out _ hHeld.out).mono ?_
    rintro e17 w17 ⟨rfl, hb17⟩
    go_wp2_with fail
    refine hK.out _ _ (Lib.hid (after hHeld.out hb17)) (fun hHeld2 => ?_)
    clear hK K hHeld
    have hHeld := hHeld2
    clear hHeld2
    try simp only [Act.put, List.setIfInBounds_toArray, List.set_cons_zero, List.set_cons_succ]
    refine wpAnyH_ready (rs := [20]) (by as_aux_lemma => kernel_rfl) (List.cons_ne_nil _ _) ?_
    refine AllReadyH.cons (o := { dst := some 151, op := Go.Op.pick (Go.Operand.tmp 145) (Go.Operand.tmp 150) (Go.Operand.const (Go.Value.bool false)), type := 4, pos := "outright.go:205", after := #[{ on := 14, ground := Go.Ground.data }, { on := 19, ground := Go.Ground.data }], guard := none }) rfl (fun K hK => ?_) AllReadyH.nil
    go_simp
    refine hK.out _ _ hHeld (fun _ => ?_)
    clear hK K
    try simp only [Act.put, List.setIfInBounds_toArray, List.set_cons_zero, List.set_cons_succ]
    refine wpAnyH_ready (rs := [21]) (by as_aux_lemma => kernel_rfl) (List.cons_ne_nil _ _) ?_
    refine AllReadyH.cons (o := { dst := some 152, op := Go.Op.move (Go.Operand.tmp 151), type := 4, pos := "outright.go:205", after := #[{ on := 20, ground := Go.Ground.data }, { on := 19, ground := Go.Ground.chain }], guard := none }) rfl (fun K hK => ?_) AllReadyH.nil
    go_simp
    refine hK.out _ _ hHeld (fun _ => ?_)
    clear hK K
    try simp only [Act.put, List.setIfInBounds_toArray, List.set_cons_zero, List.set_cons_succ]
    refine wpAnyH_ready (rs := [22]) (by as_aux_lemma => kernel_rfl) (List.cons_ne_nil _ _) ?_
    refine AllReadyH.cons (o := { dst := some 153, op := Go.Op.call { callee := Go.Callee.value (Go.Operand.func 7), args := #[], argTypes := #[] }, type := 4, pos := "outright.go:205", after := #[{ on := 21, ground := Go.Ground.chain }, { on := 21, ground := Go.Ground.guard }], guard := some (21, true) }) rfl (fun K hK => ?_) AllReadyH.nil
    go_simp
    refine (HWk.out _ (HG.out.up (after HB16.out hHeld.out))).mono ?_
    rintro e18 w18 ⟨rfl, hb18⟩
    go_wp2_with fail
    refine hK.out _ _ (Lib.hid (after hHeld.out hb18)) (fun hHeld2 => ?_)
    clear hK K hHeld
    have hHeld := hHeld2
    clear hHeld2
    try simp only [Act.put, List.setIfInBounds_toArray, List.set_cons_zero, List.set_cons_succ]
    refine wpAnyH_ready (rs := [23]) (by as_aux_lemma => kernel_rfl) (List.cons_ne_nil _ _) ?_
    refine AllReadyH.cons (o := { dst := some 154, op := Go.Op.pick (Go.Operand.tmp 152) (Go.Operand.tmp 153) (Go.Operand.const (Go.Value.bool false)), type := 4, pos := "outright.go:205", after := #[{ on := 21, ground := Go.Ground.data }, { on := 22, ground := Go.Ground.data }], guard := none }) rfl (fun K hK => ?_) AllReadyH.nil
    go_simp
    refine hK.out _ _ hHeld (fun _ => ?_)
    clear hK K
    try simp only [Act.put, List.setIfInBounds_toArray, List.set_cons_zero, List.set_cons_succ]
    refine wpAnyH_ready (rs := [24]) (by as_aux_lemma => kernel_rfl) (List.cons_ne_nil _ _) ?_
    refine AllReadyH.cons (o := { dst := some 8, op := Go.Op.assign (Go.Operand.tmp 154), type := 4, pos := "outright.go:205", after := #[{ on := 23, ground := Go.Ground.data }, { on := 22, ground := Go.Ground.chain }, { on := 0, ground := Go.Ground.phase }, { on := 1, ground := Go.Ground.phase }, { on := 2, ground := Go.Ground.phase }, { on := 3, ground := Go.Ground.phase }, { on := 4, ground := Go.Ground.phase }, { on := 5, ground := Go.Ground.phase }, { on := 6, ground := Go.Ground.phase }, { on := 7, ground := Go.Ground.phase }, { on := 8, ground := Go.Ground.phase }, { on := 9, ground := Go.Ground.phase }, { on := 10, ground := Go.Ground.phase }, { on := 11, ground := Go.Ground.phase }, { on := 12, ground := Go.Ground.phase }, { on := 13, ground := Go.Ground.phase }, { on := 14, ground := Go.Ground.phase }, { on := 15, ground := Go.Ground.phase }, { on := 16, ground := Go.Ground.phase }, { on := 17, ground := Go.Ground.phase }, { on := 18, ground := Go.Ground.phase }, { on := 19, ground := Go.Ground.phase }, { on := 20, ground := Go.Ground.phase }, { on := 21, ground := Go.Ground.phase }, { on := 22, ground := Go.Ground.phase }, { on := 23, ground := Go.Ground.phase }], guard := none }) rfl (fun K hK => ?_) AllReadyH.nil
    go_simp
    refine hK.out _ _ hHeld (fun _ => ?_)
    clear hK K
    try simp only [Act.put, List.setIfInBounds_toArray, List.set_cons_zero, List.set_cons_succ]
    refine wpAnyH_done (by kernel_rfl) ?_ _
    refine NoPanic.normal ?_
    go_wp2_with fail
    go_ret
    exact ⟨rfl, after HB16.out hHeld.out⟩
theorem forms_law (hWk : WorksR6) (ds : List Nat) (v : Value) (fr bh : TL) (Af Ab : Option Addr) (cf cb : Nat) (dp : Nat) (hdp : dp ≤ 255) (w : World) (hL : ByL w v ds)
    (hF : TokL w w.heap.size (.slice Af fr.length cf) fr) (hB : TokL w w.heap.size (.slice Ab bh.length cb) bh) (hG : Glob6 w) :
    Calls Tryz.prog 3 #[v, .slice Af fr.length cf, .slice Ab bh.length cb, .int .u8 (dp : Int)] w fun e w' => e = .returned (.bool true) ∧ Below w.heap.size w w' := by
  by_cases h : ds.length ≤ 200
  · exact forms_short hWk dp hdp w (cod_of hL (by omega)) h hF hB hG
  · obtain ⟨A, c, rfl, _⟩ := hL
    exact forms_long hWk (by omega) _ _ dp w hG
end Go.Proofs.YtipepljmfgjbpaaGreatDoor.E6
