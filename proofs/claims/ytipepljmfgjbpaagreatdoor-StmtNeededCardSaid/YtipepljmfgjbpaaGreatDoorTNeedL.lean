/-
  StmtNeeded: the law where the bytes are too many.
  StmtNeeded: the law.
-/
import Derived.Test.YtipepljmfgjbpaaGreatDoorTMkQ
import Derived.Test.YtipepljmfgjbpaaGreatDoorTRead
import Derived.Test.YtipepljmfgjbpaaGreatDoorTWorks
import Derived.Test.YtipepljmfgjbpaaGreatDoorTEq
namespace Go.Proofs.YtipepljmfgjbpaaGreatDoor.E6
open Go Go.RowKit Go.Proofs.YtipepljmfgjbpaaGreatDoor Go.Proofs.YtipepljmfgjbpaaGreatDoor.E5

set_option maxRecDepth 100000 in
set_option maxHeartbeats 8000000 in
theorem needed_long (hWk : WorksR6) {A : Option Addr} {n c : Nat} (h2 : 200 < n) (m : Nat) (_hm : m ≤ 65535) (w : World) (hG : Glob6 w) :
    Calls Tryz.prog 4 #[.slice A n c, .int .u16 (m : Int)] w fun e w' => e = .returned (.bool true) ∧ Below w.heap.size w w' := by
  have HWk := Lib.hid hWk
  have HG := Lib.hid hG
  have M := Lib.hid (made_long (W := w) (A := A) (n := n) (c := c) h2)
  clear hWk hG
  go_enter Tryz.func4, Tryz.ntmps4
  try simp only [List.append_eq, List.cons_append, List.nil_append]
  go_wp2_with fail
  refine M.out.mono ?_
  rintro E w1 ⟨rfl, hb⟩
  have HB1 := Lib.hid hb
  clear hb M
  go_wp2_with fail
  have hal := S3.bal w1 (S3.sO zS (.slice none 0 0) (.slice none 0 0) (.slice none 0 0))
  have HB2 := Lib.hid (after HB1.out hal)
  refine (HWk.out _ (HG.out.up HB2.out)).mono ?_
  rintro E w2 ⟨rfl, hb⟩
  have HB3 := Lib.hid (after HB2.out hb)
  clear hb hal
  go_wp2_with fail
  go_ret
  exact ⟨rfl, HB3.out⟩

end Go.Proofs.YtipepljmfgjbpaaGreatDoor.E6

namespace Go.Proofs.YtipepljmfgjbpaaGreatDoor.E6
open Go Go.RowKit Go.Proofs.YtipepljmfgjbpaaGreatDoor Go.Proofs.YtipepljmfgjbpaaGreatDoor.E5

theorem SIs.gen {w w' : World} {R R' : Nat → Prop} {s : St} {va vb ve : Value} (h : SIs w R s va vb ve) (hR : ∀ b, R b → R' b) (hk : ∀ b i, R b → w'.cell? ⟨b, i, none⟩ = w.cell? ⟨b, i, none⟩) : SIs w' R' s va vb ve :=
  ⟨h.ok, h.a.keep hR hk, h.b.keep hR hk, h.e.keep hR hk⟩
/-- A reading's result: a statement (the zero one with an error), an index, an error. -/
def NU (s : St) (i c : Int) (w : World) (E : Ending) (w' : World) : Prop := ∃ Aa ca Ab cb Ae ce, E = .returned (.tuple #[S3.sV s (.slice Aa s.args.length ca) (.slice Ab s.body.length cb) (.slice Ae s.els.length ce), .int .i64 i, .int .i64 c]) ∧ S3.EIn w' w'.heap.size s.args (.slice Aa s.args.length ca) ∧ S3.SIn w' w'.heap.size s.body (.slice Ab s.body.length cb) ∧ S3.SIn w' w'.heap.size s.els (.slice Ae s.els.length ce) ∧ Below w.heap.size w w'
theorem NU.bad {j : Nat} {c : Int} {w w' : World} {E : Ending} (h : PostPS w (.bad j c) E w') : NU zS j c w E w' := by
  obtain ⟨h1, h2⟩ := h
  exact ⟨none, 0, none, 0, none, 0, h1, S3.ER.nil none 0, S3.SR.nil none 0, S3.SR.nil none 0, h2⟩
theorem NU.ok {s : St} {n : Nat} {w w' : World} {E : Ending} (h : PostPS w (.ok s n) E w') : NU s n 0 w E w' := by
  obtain ⟨va, vb, ve, h1, h2, h3⟩ := h
  obtain ⟨Aa, ca, rfl⟩ := h2.a.slice
  obtain ⟨Ab, cb, rfl⟩ := h2.b.slice
  obtain ⟨Ae, ce, rfl⟩ := h2.e.slice
  exact ⟨Aa, ca, Ab, cb, Ae, ce, h1, er_in h2.a (Nat.le_refl _), h2.b.keep (fun _ hx => hx.2) (fun _ _ _ => rfl), h2.e.keep (fun _ hx => hx.2) (fun _ _ _ => rfl), h3⟩
theorem two_of {l : TL} {r : RS} (hr : stR l 0 1 = r) {w : World} {v : Value} (hT : TokL w w.heap.size v l) (hG : Glob6 w) (hl : l.length ≤ 1000000) :
    Calls Tryz.prog 8 #[v, .int .i64 0, .int .i64 1] w (PostPS w r) := by
  have := sparse_calls (i := 0) (d := 1) hT hG.e (Nat.zero_le _) hG.g hl (by omega)
  rw [depS_one, hr] at this
  exact this

set_option maxRecDepth 100000 in
set_option maxHeartbeats 8000000 in
theorem needed_short (hWk : WorksR6) {code : Value} {all : List Nat} (m : Nat) (hm : m ≤ 65535) (w : World) (hC : CodL w w.heap.size code all) (h2 : all.length ≤ 200) (hG : Glob6 w) :
    Calls Tryz.prog 4 #[code, .int .u16 (m : Int)] w fun e w' => e = .returned (.bool true) ∧ Below w.heap.size w w' := by
  have HWk := Lib.hid hWk
  have HG := Lib.hid hG
  have M := Lib.hid (made_calls hC h2)
  have hby : Byt all := by obtain ⟨_, _, _, _, h, _⟩ := hC; exact h
  have hFS := (mkS_ok 4 25 all hby).1
  have hln := mkS_len4 25 all
  have hps := hFS.pos
  clear hWk hG hby
  generalize mkS 4 25 all = r at *
  obtain ⟨A, c, rfl, _⟩ := hC
  obtain ⟨k, hk⟩ : ∃ k, k = m % r.tk.length := ⟨_, rfl⟩
  have hkl : k < r.tk.length := by rw [hk]; exact Nat.mod_lt _ hps
  obtain ⟨R, hR, hR1, hR2⟩ := need_two hFS (by decide) hkl
  have hFS := Lib.hid hFS
  go_enter Tryz.func4, Tryz.ntmps4
  try simp only [List.append_eq, List.cons_append, List.nil_append]
  go_wp2_with fail
  refine M.out.mono ?_
  rintro E w1 ⟨p, va, vb, ve, vo, rfl, hS, hI, hvo, hb⟩
  obtain ⟨g, cap, rfl, hT, hpg, hgl, hgb, hgf, hcap, hcap2⟩ := made_out hI hvo hps (by omega)
  have hwg : w.heap.size ≤ g := by have := hI.2; omega
  obtain ⟨⟨Aa, ka, rfl⟩, ⟨Ab, kb, rfl⟩, ⟨Ae, ke, rfl⟩⟩ : (∃ A c, va = .slice A r.s.args.length c) ∧ (∃ A c, vb = .slice A r.s.body.length c) ∧ ∃ A c, ve = .slice A r.s.els.length c := ⟨hS.a.slice, hS.b.slice, hS.e.slice⟩
  have HS := Lib.hid hS
  have HT := Lib.hid hT
  have HB1 := Lib.hid hb
  have HGF := Lib.hid hgf
  have HGB := Lib.hid hgb
  have hq0 : ¬ ((r.tk.length : Int) = 0) := by omega
  have hqm : (m : Int).tmod (r.tk.length : Int) = (k : Int) := by rw [Int.tmod_eq_emod_of_nonneg (by omega), hk]; rfl
  have hqw : IntKind.i64.wrap (m : Int) = (m : Int) := IntWalk.i64_in _ (by omega)
  have hqk : IntKind.i64.wrap (k : Int) = (k : Int) := IntWalk.i64_in _ (by omega)
  clear hb hT hS M hI hvo hgf hgb hk
  have qs1 : ¬ (cap : Int) < (k : Int) := by omega
  have qs2 : k ≤ cap := by omega
  have qs3 : (k : Int) ≤ (cap : Int) := by omega
  go_wp2_with fail
  have hal := S3.bal w1 (S3.sO r.s (.slice Aa r.s.args.length ka) (.slice Ab r.s.body.length kb) (.slice Ae r.s.els.length ke))
  have HX2 := Lib.hid (S3.SBox.new w1 r.s (.slice Aa r.s.args.length ka) (.slice Ab r.s.body.length kb) (.slice Ae r.s.els.length ke))
  have HB2 := Lib.hid (after HB1.out hal)
  have HT2 := Lib.hid ((HT.out.bel hal).keep hal.size fun _ _ _ => rfl)
  have HS2 := Lib.hid (HS.out.gen (w' := w1.alloc (S3.sO r.s (.slice Aa r.s.args.length ka) (.slice Ab r.s.body.length kb) (.slice Ae r.s.els.length ke))) (R' := fun b => b < w1.heap.size ∧ b ≠ g) (fun b hb => ⟨hb.2.1, HGB.out _ b hb⟩) (fun b i hb => hal.cell (p := ⟨b, i, none⟩) hb.2.1))
  have hF2 : ∀ i, (w1.alloc (S3.sO r.s (.slice Aa r.s.args.length ka) (.slice Ab r.s.body.length kb) (.slice Ae r.s.els.length ke))).frozen? ⟨g, i, none⟩ = false := fun i => (hal.frozen (p := ⟨g, i, none⟩) hgl).trans (HGF.out i)
  have HF2 := Lib.hid hF2
  have hp2 : w1.heap.size < (w1.alloc (S3.sO r.s (.slice Aa r.s.args.length ka) (.slice Ab r.s.body.length kb) (.slice Ae r.s.els.length ke))).heap.size := by rw [S3.sz1]; omega
  have HFX := Lib.hid (show ∀ q, (w1.alloc (S3.sO r.s (.slice Aa r.s.args.length ka) (.slice Ab r.s.body.length kb) (.slice Ae r.s.els.length ke))).frozen? ⟨w1.heap.size, q, none⟩ = false from fun q => by unfold World.frozen?; rw [heap_alloc_new]; rfl)
  clear hal hF2 HT HS HGF HGB HB1
  generalize hpa : w1.heap.size = pa at *
  have hgp : g ≠ pa := by omega
  generalize w1.alloc (S3.sO r.s (.slice Aa r.s.args.length ka) (.slice Ab r.s.body.length kb) (.slice Ae r.s.els.length ke)) = w2 at *
  rcases hR with rfl | ⟨hk9, rfl⟩
  · refine (two_of hR1 (tok_cut HT2.out (Nat.le_of_lt hkl)) (HG.out.up HB2.out) (by rw [List.length_take]; omega)).mono ?_
    intro E w3 hE
    obtain ⟨Ba, da, Bb, db, Be, de, rfl, hE1, hE2, hE3, hb⟩ := NU.bad hE
    have HB3 := Lib.hid (after HB2.out hb)
    have hT3 := (HT2.out.bel hb).keep hb.size fun _ _ _ => rfl
    have hz3 := hb.size
    have hF3 : ∀ i, w3.frozen? ⟨g, i, none⟩ = false := fun i => (hb.frozen (p := ⟨g, i, none⟩) (show g < w2.heap.size by omega)).trans (HF2.out i)
    obtain ⟨u0, u1, u2, d0, d1, d2⟩ : ∃ u0 u1 u2, w3.cell? ⟨g, k * 3, none⟩ = some u0 ∧ w3.cell? ⟨g, k * 3 + 1, none⟩ = some u1 ∧ w3.cell? ⟨g, k * 3 + 2, none⟩ = some u2 := by
      obtain ⟨A', c', e1, _, hel⟩ := HT2.out
      cases e1
      obtain ⟨_, b', o', a, e1, e2, x0, x1, x2⟩ := hel k _ (List.getElem?_eq_getElem hkl)
      cases e1
      rw [Nat.zero_add] at x0 x1 x2
      have kk := fun q => hb.cell (p := ⟨g, q, none⟩) (show g < w2.heap.size by omega)
      exact ⟨_, _, _, (kk _).trans x0, (kk _).trans x1, (kk _).trans x2⟩
    have hP := tok_put hT3 hkl 3 0 [102, 117, 110, 99] (by decide)
    rw [Nat.zero_add] at hP
    have hl4 : Below w.heap.size w (((w3.setCell ⟨g, k * 3, none⟩ (.int .i64 3)).setCell ⟨g, k * 3 + 1, none⟩ (.string (B [102, 117, 110, 99]))).setCell ⟨g, k * 3 + 2, none⟩ (.int .i64 0)) :=
      ((HB3.out.setCell (p := ⟨g, k * 3, none⟩) hwg _).setCell (p := ⟨g, k * 3 + 1, none⟩) hwg _).setCell (p := ⟨g, k * 3 + 2, none⟩) hwg _
    have HP := Lib.hid hP
    have HL4 := Lib.hid hl4
    have HX3 := Lib.hid (HX2.out.keep hb hp2)
    have hgz : g < w3.heap.size := by omega
    have hgz2 : g ≠ w3.heap.size := by omega
    clear hb hE hT3 hE1 hE2 hE3 hP hl4
    go_wp2_with fail
    have hzp : (((w3.setCell ⟨g, k * 3, none⟩ (.int .i64 3)).setCell ⟨g, k * 3 + 1, none⟩ (.string (B [102, 117, 110, 99]))).setCell ⟨g, k * 3 + 2, none⟩ (.int .i64 0)).heap.size = w3.heap.size := by simp [World.setCell]
    have hT4 := HP.out
    rw [← hzp] at hT4
    have hl4 := HL4.out
    generalize ((w3.setCell ⟨g, k * 3, none⟩ (.int .i64 3)).setCell ⟨g, k * 3 + 1, none⟩ (.string (B [102, 117, 110, 99]))).setCell ⟨g, k * 3 + 2, none⟩ (.int .i64 0) = w4 at *
    refine (two_of hR2 (((hT4.bel (S3.bal w4 _)).keep (S3.bal w4 _).size fun _ _ _ => rfl)) (HG.out.up (after hl4 (S3.bal w4 _))) (by rw [List.length_set]; omega)).mono ?_
    intro E w5 hE
    obtain ⟨Ca, fa, Cb, fb, Ce, fe, rfl, hE1, hE2, hE3, hb⟩ := NU.bad hE
    have hal := S3.bal w5 (S3.sO zS (.slice Ca zS.args.length fa) (.slice Cb zS.body.length fb) (.slice Ce zS.els.length fe))
    have HB6 := Lib.hid (after (after (after hl4 (S3.bal w4 _)) hb) hal)
    have CE := exactC_calls zS zS (.slice Ca zS.args.length fa) (.slice Cb zS.body.length fb) (.slice Ce zS.els.length fe) (.slice none 0 0) (.slice none 0 0) (.slice none 0 0) _ (hE1.up hal) (hE2.up hal) (hE3.up hal) (S3.ER.nil none 0) (S3.SR.nil none 0) (S3.SR.nil none 0)
    rw [eqX_iff.2 rfl] at CE
    have CE := Lib.hid CE
    clear hb hE hT4 hE1 hE2 hE3 hl4 hal
    go_wp2_with fail
    refine CE.out.mono ?_
    rintro E w7 ⟨rfl, hb⟩
    have HB7 := Lib.hid (after HB6.out hb)
    clear hb CE
    go_wp2_with fail
    refine (HWk.out _ (HG.out.up HB7.out)).mono ?_
    rintro E w8 ⟨rfl, hb⟩
    have HB8 := Lib.hid (after HB7.out hb)
    clear hb
    go_wp2_with fail
    go_ret
    exact ⟨rfl, HB8.out⟩
  · refine (two_of hR1 (tok_cut HT2.out (Nat.le_of_lt hkl)) (HG.out.up HB2.out) (by rw [List.length_take]; omega)).mono ?_
    intro E w3 hE
    obtain ⟨Ba, da, Bb, db, Be, de, rfl, hE1, hE2, hE3, hb⟩ := NU.ok hE
    have HB3 := Lib.hid (after HB2.out hb)
    have hT3 := (HT2.out.bel hb).keep hb.size fun _ _ _ => rfl
    have hz3 := hb.size
    have hF3 : ∀ i, w3.frozen? ⟨g, i, none⟩ = false := fun i => (hb.frozen (p := ⟨g, i, none⟩) (show g < w2.heap.size by omega)).trans (HF2.out i)
    obtain ⟨u0, u1, u2, d0, d1, d2⟩ : ∃ u0 u1 u2, w3.cell? ⟨g, k * 3, none⟩ = some u0 ∧ w3.cell? ⟨g, k * 3 + 1, none⟩ = some u1 ∧ w3.cell? ⟨g, k * 3 + 2, none⟩ = some u2 := by
      obtain ⟨A', c', e1, _, hel⟩ := HT2.out
      cases e1
      obtain ⟨_, b', o', a, e1, e2, x0, x1, x2⟩ := hel k _ (List.getElem?_eq_getElem hkl)
      cases e1
      rw [Nat.zero_add] at x0 x1 x2
      have kk := fun q => hb.cell (p := ⟨g, q, none⟩) (show g < w2.heap.size by omega)
      exact ⟨_, _, _, (kk _).trans x0, (kk _).trans x1, (kk _).trans x2⟩
    have hP := tok_put hT3 hkl 3 0 [102, 117, 110, 99] (by decide)
    rw [Nat.zero_add] at hP
    have hl4 : Below w.heap.size w (((w3.setCell ⟨g, k * 3, none⟩ (.int .i64 3)).setCell ⟨g, k * 3 + 1, none⟩ (.string (B [102, 117, 110, 99]))).setCell ⟨g, k * 3 + 2, none⟩ (.int .i64 0)) :=
      ((HB3.out.setCell (p := ⟨g, k * 3, none⟩) hwg _).setCell (p := ⟨g, k * 3 + 1, none⟩) hwg _).setCell (p := ⟨g, k * 3 + 2, none⟩) hwg _
    have hk4 : ∀ b, b < w2.heap.size → b ≠ g → (((w3.setCell ⟨g, k * 3, none⟩ (.int .i64 3)).setCell ⟨g, k * 3 + 1, none⟩ (.string (B [102, 117, 110, 99]))).setCell ⟨g, k * 3 + 2, none⟩ (.int .i64 0)).heap[b]? = w2.heap[b]? := fun b h1 h2 => by
      rw [Below.heap_setCell _ _ _ b h2, Below.heap_setCell _ _ _ b h2, Below.heap_setCell _ _ _ b h2]
      exact hb.block b h1
    have HP := Lib.hid hP
    have HL4 := Lib.hid hl4
    have HK4 := Lib.hid hk4
    have hgz : g < w3.heap.size := by omega
    have hgz2 : g ≠ w3.heap.size := by omega
    clear hb hE hT3 hE1 hE2 hE3 hP hl4 hk4
    go_wp2_with fail
    have hzp : (((w3.setCell ⟨g, k * 3, none⟩ (.int .i64 3)).setCell ⟨g, k * 3 + 1, none⟩ (.string (B [102, 117, 110, 99]))).setCell ⟨g, k * 3 + 2, none⟩ (.int .i64 0)).heap.size = w3.heap.size := by simp [World.setCell]
    have hT4 := HP.out
    rw [← hzp] at hT4
    have hl4 := HL4.out
    have hk4 := HK4.out
    generalize ((w3.setCell ⟨g, k * 3, none⟩ (.int .i64 3)).setCell ⟨g, k * 3 + 1, none⟩ (.string (B [102, 117, 110, 99]))).setCell ⟨g, k * 3 + 2, none⟩ (.int .i64 0) = w4 at *
    refine (two_of hR2 (((hT4.bel (S3.bal w4 _)).keep (S3.bal w4 _).size fun _ _ _ => rfl)) (HG.out.up (after hl4 (S3.bal w4 _))) (by rw [List.length_set]; omega)).mono ?_
    intro E w5 hE
    obtain ⟨xa, xb, xe, rfl, hI, hb⟩ := hE
    rw [S3.sz1] at hI
    obtain ⟨Ca, fa, rfl⟩ := hI.a.slice
    obtain ⟨Cb, fb, rfl⟩ := hI.b.slice
    obtain ⟨Ce, fe, rfl⟩ := hI.e.slice
    have hz5 := hb.size
    rw [S3.sz1] at hz5
    have hk5 : ∀ b, b < w2.heap.size → b ≠ g → w5.heap[b]? = w2.heap[b]? := fun b h1 h2 => (hb.block b (by rw [S3.sz1]; omega)).trans (((S3.bal w4 _).block b (by omega)).trans (hk4 b h1 h2))
    have hpg' : pa ≠ g := fun e => hgp e.symm
    have hp5 : pa < w5.heap.size := by omega
    have hp5' : pa ≠ w5.heap.size := by omega
    have hp5'' : w5.heap.size ≠ pa := by omega
    obtain ⟨x0, x1, x2, x3, x4, x5, x6, x7⟩ := HX2.out
    have kp := fun q => World.cell?_of_block (a := ⟨pa, q, none⟩) (hk5 pa hp2 hpg')
    have x0 := (kp 0).trans x0
    have x1 := (kp 1).trans x1
    have x2 := (kp 2).trans x2
    have x3 := (kp 3).trans x3
    have x4 := (kp 4).trans x4
    have x5 := (kp 5).trans x5
    have x6 := (kp 6).trans x6
    have x7 := (kp 7).trans x7
    have fq : w5.frozen? ⟨pa, 7, none⟩ = false := (World.frozen?_of_block (a := ⟨pa, 7, none⟩) (hk5 pa hp2 hpg')).trans (HFX.out 7)
    have hq9 : (r.s.kind == 9) = true := by rw [hk9]; rfl
    have hl5 : Below w.heap.size w w5 := after (after hl4 (S3.bal w4 _)) hb
    have HI5 := Lib.hid hI
    have HL5 := Lib.hid hl5
    have HK5 := Lib.hid hk5
    clear kp hb hT4 hI hl4 hk4 hk5 hl5
    go_wp2_with fail
    have hzs : (w5.setCell ⟨pa, 7, none⟩ (.slice none 0 0)).heap.size = w5.heap.size := by simp [World.setCell]
    have hl6 : Below w.heap.size w (w5.setCell ⟨pa, 7, none⟩ (.slice none 0 0)) := HL5.out.setCell (p := ⟨pa, 7, none⟩) (by show w.heap.size ≤ pa; omega) _
    have hn6 : ∀ b, b ≠ pa → (w5.setCell ⟨pa, 7, none⟩ (.slice none 0 0)).heap[b]? = w5.heap[b]? := fun b hb => Below.heap_setCell _ _ _ b hb
    have hA6 : S3.EIn (w5.setCell ⟨pa, 7, none⟩ (.slice none 0 0)) (w5.setCell ⟨pa, 7, none⟩ (.slice none 0 0)).heap.size r.s.args (.slice Aa r.s.args.length ka) :=
      HS2.out.a.keep (fun b hb => by rw [hzs]; have := hb.1; omega) fun b q hb => World.cell?_of_block (a := ⟨b, q, none⟩) ((hn6 b (by have := hb.1; omega)).trans (HK5.out b (by have := hb.1; omega) hb.2))
    have hB6 : S3.SIn (w5.setCell ⟨pa, 7, none⟩ (.slice none 0 0)) (w5.setCell ⟨pa, 7, none⟩ (.slice none 0 0)).heap.size r.s.body (.slice Ab r.s.body.length kb) :=
      HS2.out.b.keep (fun b hb => by rw [hzs]; have := hb.1; omega) fun b q hb => World.cell?_of_block (a := ⟨b, q, none⟩) ((hn6 b (by have := hb.1; omega)).trans (HK5.out b (by have := hb.1; omega) hb.2))
    have hA7 : S3.EIn (w5.setCell ⟨pa, 7, none⟩ (.slice none 0 0)) (w5.setCell ⟨pa, 7, none⟩ (.slice none 0 0)).heap.size r.s.args (.slice Ca r.s.args.length fa) :=
      HI5.out.a.keep (fun b hb => by rw [hzs]; exact hb.2) fun b q hb => World.cell?_of_block (a := ⟨b, q, none⟩) (hn6 b (by have := hb.1; omega))
    have hB7 : S3.SIn (w5.setCell ⟨pa, 7, none⟩ (.slice none 0 0)) (w5.setCell ⟨pa, 7, none⟩ (.slice none 0 0)).heap.size r.s.body (.slice Cb r.s.body.length fb) :=
      HI5.out.b.keep (fun b hb => by rw [hzs]; exact hb.2) fun b q hb => World.cell?_of_block (a := ⟨b, q, none⟩) (hn6 b (by have := hb.1; omega))
    have hal := S3.bal (w5.setCell ⟨pa, 7, none⟩ (.slice none 0 0)) (S3.sO ⟨9, r.s.no, r.s.name, r.s.typ, r.s.callee, r.s.args, r.s.body, []⟩ (.slice Ca r.s.args.length fa) (.slice Cb r.s.body.length fb) (.slice Ce 0 fe))
    have CE := exactC_calls ⟨9, r.s.no, r.s.name, r.s.typ, r.s.callee, r.s.args, r.s.body, []⟩ ⟨9, r.s.no, r.s.name, r.s.typ, r.s.callee, r.s.args, r.s.body, []⟩ (.slice Ca r.s.args.length fa) (.slice Cb r.s.body.length fb) (.slice Ce 0 fe) (.slice Aa r.s.args.length ka) (.slice Ab r.s.body.length kb) (.slice none 0 0) _ (hA7.up hal) (hB7.up hal) (S3.SR.nil Ce fe) (hA6.up hal) (hB6.up hal) (S3.SR.nil none 0)
    rw [eqX_iff.2 rfl] at CE
    have HB6 := Lib.hid (after hl6 hal)
    refine CE.mono ?_
    rintro E w7 ⟨rfl, hb⟩
    have HB7 := Lib.hid (after HB6.out hb)
    clear hb CE hal hA6 hB6 hA7 hB7 hn6 hl6 hzs
    go_wp2_with fail
    refine (HWk.out _ (HG.out.up HB7.out)).mono ?_
    rintro E w8 ⟨rfl, hb⟩
    have HB8 := Lib.hid (after HB7.out hb)
    clear hb
    go_wp2_with fail
    go_ret
    exact ⟨rfl, HB8.out⟩
theorem needed_law (hWk : WorksR6) (ds : List Nat) (v : Value) (m : Nat) (hm : m ≤ 65535) (w : World) (hL : ByL w v ds) (hG : Glob6 w) :
    Calls Tryz.prog 4 #[v, .int .u16 (m : Int)] w fun e w' => e = .returned (.bool true) ∧ Below w.heap.size w w' := by
  by_cases h : ds.length ≤ 200
  · exact needed_short hWk m hm w (cod_of hL (by omega)) h hG
  · obtain ⟨A, c, rfl, _⟩ := hL
    exact needed_long hWk (by omega) m hm w hG
end Go.Proofs.YtipepljmfgjbpaaGreatDoor.E6
