/-
  The law's equality of expressions and of statements, in all fields: contracts. Written by gen6_eq.py.
  The law's equality of statements, in all fields: contracts. Written by gen6_eq.py.
  The law's few: contract; what is read at the end of the tokens.
-/
import Derived.Test.YtipepljmfgjbpaaGreatDoorERd
import Derived.Test.YtipepljmfgjbpaaGreatDoorTMath
import Derived.Test.YtipepljmfgjbpaaGreatDoorSMm
import Derived.BigRegion
import Derived.Deep.RegionWith
import Derived.LoopTactic
namespace Go.Proofs.YtipepljmfgjbpaaGreatDoor.E6
open Go Go.RowKit Go.Proofs.YtipepljmfgjbpaaGreatDoor Go.Proofs.YtipepljmfgjbpaaGreatDoor.E5

open Classical in
noncomputable def eqE (a b : Ex) : Bool := decide (a = b)
open Classical in
noncomputable def eqEs (a b : List Ex) : Bool := decide (a = b)
open Classical in
noncomputable def eqX (a b : St) : Bool := decide (a = b)
open Classical in
noncomputable def eqLs (a b : List St) : Bool := decide (a = b)
theorem eqE_iff {a b : Ex} : eqE a b = true ↔ a = b := by simp [eqE]
theorem eqEs_iff {a b : List Ex} : eqEs a b = true ↔ a = b := by simp [eqEs]
theorem eqX_iff {a b : St} : eqX a b = true ↔ a = b := by simp [eqX]
theorem eqLs_iff {a b : List St} : eqLs a b = true ↔ a = b := by simp [eqLs]
theorem not_of {b : Bool} (h : ¬ b = true) : b = false := by cases b <;> simp_all
theorem take_snoc {α : Type} {l m : List α} {k : Nat} (h : l.take k = m.take k) (hl : k < l.length) (hm : k < m.length) (he : l[k] = m[k]) : l.take (k + 1) = m.take (k + 1) := by
  rw [List.take_succ_eq_append_getElem hl, List.take_succ_eq_append_getElem hm, h, he]
theorem el_ne {α : Type} {l m : List α} {k : Nat} (hl : k < l.length) (hm : k < m.length) (he : l[k] ≠ m[k]) : l ≠ m := by rintro rfl; exact he rfl
theorem all_eq {α : Type} {l m : List α} (hl : l.length = m.length) (h : l.take l.length = m.take l.length) : l = m := by
  rw [List.take_length, hl, List.take_length] at h; exact h
theorem bal_dr (w : World) : Below w.heap.size w w.drew := (Below.refl _ w).drew
/-- What the law's expr says of two expressions; what exact says of two statements. -/
def EqC (x y : Ex) : Prop := ∀ (vx vy : Value) (w : World), S3.EIn w w.heap.size x.args vx → S3.EIn w w.heap.size y.args vy →
  Calls Tryz.prog 35 #[S3.eV x vx, S3.eV y vy] w fun r w' => r = .returned (.bool (eqE x y)) ∧ Below w.heap.size w w'
def EqS (x y : St) : Prop := ∀ (va vb ve ua ub ue : Value) (w : World), S3.EIn w w.heap.size x.args va → S3.SIn w w.heap.size x.body vb → S3.SIn w w.heap.size x.els ve → S3.EIn w w.heap.size y.args ua → S3.SIn w w.heap.size y.body ub → S3.SIn w w.heap.size y.els ue →
  Calls Tryz.prog 9 #[S3.sV x va vb ve, S3.sV y ua ub ue] w fun r w' => r = .returned (.bool (eqX x y)) ∧ Below w.heap.size w w'

set_option maxRecDepth 100000 in
set_option maxHeartbeats 4000000 in
theorem exprs_of (la lb : List Ex) (h : ∀ x ∈ la, ∀ y, EqC x y) (va vb : Value) (w : World) (hA : S3.EIn w w.heap.size la va) (hB : S3.EIn w w.heap.size lb vb) :
    Calls Tryz.prog 19 #[va, vb] w fun r w' => r = .returned (.bool (eqEs la lb)) ∧ Below w.heap.size w w' := by
  obtain ⟨A1, c1, rfl⟩ := hA.slice
  obtain ⟨A2, c2, rfl⟩ := hB.slice
  have l1 := hA.le
  have l2 := hB.le
  have HA := Lib.hid hA
  have HB := Lib.hid hB
  have H := Lib.hid h
  clear hA hB h
  by_cases hl : la.length = lb.length
  · have hl' : ((la.length : Int) != (lb.length : Int)) = false := by simp [hl]
    have HL := Lib.hid hl
    have hle : la.length ≤ lb.length := by omega
    clear hl
    go_enter Tryz.func19, Tryz.ntmps19
    go_wp2_with fail
    go_loopw [5] (fun i wr => ∃ n : Nat, n ≤ la.length ∧ i = .int .i64 n ∧ Hid (la.take n = lb.take n) ∧ Hid (Below w.heap.size w wr)) (fun i _ => la.length - (intOf i).toNat)
    case atStart => exact ⟨0, by omega, rfl, Lib.hid (by simp), Lib.hid (Below.refl _ _)⟩
    case round =>
      obtain ⟨n, hn, rfl, HT, HW⟩ := hrel
      by_cases hlt : n < la.length
      · have hlt2 : n < lb.length := by omega
        obtain ⟨bkx, ox, vx, hAx, hblx, hoex, hcx, hsx⟩ := (HA.out.at_).2 n hlt
        obtain ⟨px0, px1, px2, px3, px4⟩ := hcx.keep (fun i => HW.out.cell (p := ⟨bkx, i, none⟩) hblx)
        obtain ⟨Ax, cx, rfl⟩ := hsx.slice
        have Kx := Lib.hid ((hsx.keep (M' := wr.heap.size) HW.out.size fun q i hq => HW.out.cell (p := ⟨q, i, none⟩) hq).up (bal_dr wr))
        subst hAx
        clear hcx hsx hoex
        obtain ⟨bky, oy, vy, hAy, hbly, hoey, hcy, hsy⟩ := (HB.out.at_).2 n hlt2
        obtain ⟨py0, py1, py2, py3, py4⟩ := hcy.keep (fun i => HW.out.cell (p := ⟨bky, i, none⟩) hbly)
        obtain ⟨Ay, cy, rfl⟩ := hsy.slice
        have Ky := Lib.hid ((hsy.keep (M' := wr.heap.size) HW.out.size fun q i hq => HW.out.cell (p := ⟨q, i, none⟩) hq).up (bal_dr wr))
        subst hAy
        clear hcy hsy hoey
        have hz := HW.out.size
        have hC := H.out _ (List.getElem_mem hlt) lb[n]
        have HY := Lib.hid (fun h : eqE la[n] lb[n] = true => take_snoc HT.out hlt hlt2 (eqE_iff.1 h))
        have HN := Lib.hid (fun h : eqE la[n] lb[n] = false => not_of fun e => el_ne hlt hlt2 (fun e' => by rw [eqE_iff.2 e'] at h; cases h) (eqEs_iff.1 e))
        generalize la[n] = x at *
        generalize lb[n] = y at *
        have HC := Lib.hid hC
        clear hC
        cases he : eqE x y with
        | true =>
          have HE := Lib.hid he
          clear he
          go_wp2_with fail
          go_region_with (first
            | (go_at_call 35; refine (HC.out _ _ _ (by exact Kx.out) (by exact Ky.out)).mono ?_; rintro r w2 ⟨rfl, hb⟩; have HB2 := Lib.hid (after HW.out (after (bal_dr wr) hb)); clear hb; rw [HE.out]))
          all_goals (
            go_wp2_with fail
            go_roundw
            case rel => exact ⟨n + 1, by omega, by go_num, Lib.hid (HY.out HE.out), HB2⟩
            case measure => simp [intOf]; omega)
        | false =>
          have HE := Lib.hid he
          clear he
          go_wp2_with fail
          go_region_with (first
            | (go_at_call 35; refine (HC.out _ _ _ (by exact Kx.out) (by exact Ky.out)).mono ?_; rintro r w2 ⟨rfl, hb⟩; have HB2 := Lib.hid (after HW.out (after (bal_dr wr) hb)); clear hb; rw [HE.out]))
          all_goals (
            go_wp2_with fail
            go_ret
            exact ⟨by rw [HN.out HE.out]; rfl, HB2.out⟩)
      · obtain rfl : n = la.length := by omega
        go_wp2_with fail
        go_ret
        exact ⟨by rw [eqEs_iff.2 (all_eq HL.out HT.out)]; rfl, HW.out⟩
  · have hl' : ((la.length : Int) != (lb.length : Int)) = true := by simp; omega
    have HL := Lib.hid hl
    clear hl
    go_enter Tryz.func19, Tryz.ntmps19
    go_wp2_with fail
    go_ret
    exact ⟨by rw [show eqEs la lb = false from not_of fun e => HL.out (by rw [eqEs_iff.1 e])]; rfl, Below.refl _ _⟩

set_option maxRecDepth 100000 in
set_option maxHeartbeats 4000000 in
theorem expr_0 (x y : Ex) (h0 : x.kind ≠ y.kind) (va vb : Value) (w : World) (hE1 : S3.EIn w w.heap.size x.args va) (hE2 : S3.EIn w w.heap.size y.args vb) :
    Calls Tryz.prog 35 #[S3.eV x va, S3.eV y vb] w fun r w' => r = .returned (.bool false) ∧ Below w.heap.size w w' := by
  obtain ⟨A1, c1, rfl⟩ := hE1.slice
  obtain ⟨A2, c2, rfl⟩ := hE2.slice
  have HE1 := Lib.hid hE1
  have HE2 := Lib.hid hE2
  clear hE1 hE2
  have g0 : (x.kind == y.kind) = false := by simpa using h0
  clear h0
  go_enter Tryz.func35, Tryz.ntmps35
  try simp only [List.append_eq, List.cons_append, List.nil_append]
  go_wp2_with fail
  go_ret
  exact ⟨rfl, S3.bal2 _ _ _⟩

set_option maxRecDepth 100000 in
set_option maxHeartbeats 4000000 in
theorem expr_1 (x y : Ex) (h0 : x.kind = y.kind) (h1 : x.op ≠ y.op) (va vb : Value) (w : World) (hE1 : S3.EIn w w.heap.size x.args va) (hE2 : S3.EIn w w.heap.size y.args vb) :
    Calls Tryz.prog 35 #[S3.eV x va, S3.eV y vb] w fun r w' => r = .returned (.bool false) ∧ Below w.heap.size w w' := by
  obtain ⟨A1, c1, rfl⟩ := hE1.slice
  obtain ⟨A2, c2, rfl⟩ := hE2.slice
  have HE1 := Lib.hid hE1
  have HE2 := Lib.hid hE2
  clear hE1 hE2
  have g0 : (x.kind == y.kind) = true := by simpa using h0
  have g1 : (x.op == y.op) = false := by simpa using h1
  clear h0 h1
  go_enter Tryz.func35, Tryz.ntmps35
  try simp only [List.append_eq, List.cons_append, List.nil_append]
  go_wp2_with fail
  go_ret
  exact ⟨rfl, S3.bal2 _ _ _⟩

set_option maxRecDepth 100000 in
set_option maxHeartbeats 4000000 in
theorem expr_2 (x y : Ex) (h0 : x.kind = y.kind) (h1 : x.op = y.op) (h2 : x.num ≠ y.num) (va vb : Value) (w : World) (hE1 : S3.EIn w w.heap.size x.args va) (hE2 : S3.EIn w w.heap.size y.args vb) :
    Calls Tryz.prog 35 #[S3.eV x va, S3.eV y vb] w fun r w' => r = .returned (.bool false) ∧ Below w.heap.size w w' := by
  obtain ⟨A1, c1, rfl⟩ := hE1.slice
  obtain ⟨A2, c2, rfl⟩ := hE2.slice
  have HE1 := Lib.hid hE1
  have HE2 := Lib.hid hE2
  clear hE1 hE2
  have g0 : (x.kind == y.kind) = true := by simpa using h0
  have g1 : (x.op == y.op) = true := by simpa using h1
  have g2 : (x.num == y.num) = false := by simpa using h2
  clear h0 h1 h2
  go_enter Tryz.func35, Tryz.ntmps35
  try simp only [List.append_eq, List.cons_append, List.nil_append]
  go_wp2_with fail
  go_ret
  exact ⟨rfl, S3.bal2 _ _ _⟩

set_option maxRecDepth 100000 in
set_option maxHeartbeats 4000000 in
theorem expr_3 (x y : Ex) (h0 : x.kind = y.kind) (h1 : x.op = y.op) (h2 : x.num = y.num) (h3 : x.name ≠ y.name) (va vb : Value) (w : World) (hE1 : S3.EIn w w.heap.size x.args va) (hE2 : S3.EIn w w.heap.size y.args vb) :
    Calls Tryz.prog 35 #[S3.eV x va, S3.eV y vb] w fun r w' => r = .returned (.bool false) ∧ Below w.heap.size w w' := by
  obtain ⟨A1, c1, rfl⟩ := hE1.slice
  obtain ⟨A2, c2, rfl⟩ := hE2.slice
  have HE1 := Lib.hid hE1
  have HE2 := Lib.hid hE2
  clear hE1 hE2
  have g0 : (x.kind == y.kind) = true := by simpa using h0
  have g1 : (x.op == y.op) = true := by simpa using h1
  have g2 : (x.num == y.num) = true := by simpa using h2
  have g3 : (x.name == y.name) = false := by simpa using h3
  clear h0 h1 h2 h3
  go_enter Tryz.func35, Tryz.ntmps35
  try simp only [List.append_eq, List.cons_append, List.nil_append]
  go_wp2_with fail
  go_ret
  exact ⟨rfl, S3.bal2 _ _ _⟩

set_option maxRecDepth 100000 in
set_option maxHeartbeats 4000000 in
theorem expr_4 (x y : Ex) (h0 : x.kind = y.kind) (h1 : x.op = y.op) (h2 : x.num = y.num) (h3 : x.name = y.name) (hf : ∀ (va vb : Value) (w : World), S3.EIn w w.heap.size x.args va → S3.EIn w w.heap.size y.args vb → Calls Tryz.prog 19 #[va, vb] w fun r w_ => r = .returned (.bool (eqEs x.args y.args)) ∧ Below w.heap.size w w_) (va vb : Value) (w : World) (hE1 : S3.EIn w w.heap.size x.args va) (hE2 : S3.EIn w w.heap.size y.args vb) :
    Calls Tryz.prog 35 #[S3.eV x va, S3.eV y vb] w fun r w' => r = .returned (.bool (eqEs x.args y.args)) ∧ Below w.heap.size w w' := by
  obtain ⟨A1, c1, rfl⟩ := hE1.slice
  obtain ⟨A2, c2, rfl⟩ := hE2.slice
  have HE1 := Lib.hid hE1
  have HE2 := Lib.hid hE2
  clear hE1 hE2
  have g0 : (x.kind == y.kind) = true := by simpa using h0
  have g1 : (x.op == y.op) = true := by simpa using h1
  have g2 : (x.num == y.num) = true := by simpa using h2
  have g3 : (x.name == y.name) = true := by simpa using h3
  clear h0 h1 h2 h3
  go_enter Tryz.func35, Tryz.ntmps35
  try simp only [List.append_eq, List.cons_append, List.nil_append]
  go_wp2_with fail
  refine (hf _ _ _ (HE1.out.up (S3.bal2 _ _ _)) (HE2.out.up (S3.bal2 _ _ _))).mono ?_
  rintro r w2 ⟨rfl, hb⟩
  have HB2 := Lib.hid (after (S3.bal2 _ _ _) hb)
  clear hb
  go_wp2_with fail
  go_ret
  exact ⟨rfl, HB2.out⟩

theorem exprC_all (n : Nat) : ∀ a : Ex, SizeOf.sizeOf a < n → ∀ b, EqC a b := by
  induction n with
  | zero => intro a h; omega
  | succ n ih =>
    intro a ha b va vb w h1 h2
    by_cases f0 : a.kind = b.kind
    · by_cases f1 : a.op = b.op
      · by_cases f2 : a.num = b.num
        · by_cases f3 : a.name = b.name
          · have e : eqE a b = eqEs a.args b.args := by
              cases a; cases b
              simp only at f0 f1 f2 f3
              subst f0 f1 f2 f3
              simp [eqE, eqEs]
            rw [e]
            refine expr_4 a b f0 f1 f2 f3 (fun va vb w h1 h2 => exprs_of a.args b.args (fun x hx y => ih x ?_ y) va vb w h1 h2) va vb w h1 h2
            have h3 := List.sizeOf_lt_of_mem hx
            have h4 : SizeOf.sizeOf a.args < SizeOf.sizeOf a := by cases a; simp; omega
            omega
          · rw [show eqE a b = false from not_of fun e => f3 (by rw [eqE_iff.1 e])]; exact expr_3 a b f0 f1 f2 f3 va vb w h1 h2
        · rw [show eqE a b = false from not_of fun e => f2 (by rw [eqE_iff.1 e])]; exact expr_2 a b f0 f1 f2 va vb w h1 h2
      · rw [show eqE a b = false from not_of fun e => f1 (by rw [eqE_iff.1 e])]; exact expr_1 a b f0 f1 va vb w h1 h2
    · rw [show eqE a b = false from not_of fun e => f0 (by rw [eqE_iff.1 e])]; exact expr_0 a b f0 va vb w h1 h2
theorem exprC_calls (a b : Ex) : EqC a b := exprC_all (SizeOf.sizeOf a + 1) a (by omega) b
theorem exprsC_calls (la lb : List Ex) (va vb : Value) (w : World) (hA : S3.EIn w w.heap.size la va) (hB : S3.EIn w w.heap.size lb vb) :
    Calls Tryz.prog 19 #[va, vb] w fun r w' => r = .returned (.bool (eqEs la lb)) ∧ Below w.heap.size w w' := exprs_of la lb (fun x _ y => exprC_calls x y) va vb w hA hB
end Go.Proofs.YtipepljmfgjbpaaGreatDoor.E6

namespace Go.Proofs.YtipepljmfgjbpaaGreatDoor.E6
open Go Go.RowKit Go.Proofs.YtipepljmfgjbpaaGreatDoor Go.Proofs.YtipepljmfgjbpaaGreatDoor.E5

set_option maxRecDepth 100000 in
set_option maxHeartbeats 4000000 in
theorem all_of (la lb : List St) (h : ∀ x ∈ la, ∀ y, EqS x y) (va vb : Value) (w : World) (hA : S3.SIn w w.heap.size la va) (hB : S3.SIn w w.heap.size lb vb) :
    Calls Tryz.prog 20 #[va, vb] w fun r w' => r = .returned (.bool (eqLs la lb)) ∧ Below w.heap.size w w' := by
  obtain ⟨A1, c1, rfl⟩ := hA.slice
  obtain ⟨A2, c2, rfl⟩ := hB.slice
  have l1 := hA.le
  have l2 := hB.le
  have HA := Lib.hid hA
  have HB := Lib.hid hB
  have H := Lib.hid h
  clear hA hB h
  by_cases hl : la.length = lb.length
  · have hl' : ((la.length : Int) != (lb.length : Int)) = false := by simp [hl]
    have HL := Lib.hid hl
    have hle : la.length ≤ lb.length := by omega
    clear hl
    go_enter Tryz.func20, Tryz.ntmps20
    go_wp2_with fail
    go_loopw [5] (fun i wr => ∃ n : Nat, n ≤ la.length ∧ i = .int .i64 n ∧ Hid (la.take n = lb.take n) ∧ Hid (Below w.heap.size w wr)) (fun i _ => la.length - (intOf i).toNat)
    case atStart => exact ⟨0, by omega, rfl, Lib.hid (by simp), Lib.hid (Below.refl _ _)⟩
    case round =>
      obtain ⟨n, hn, rfl, HT, HW⟩ := hrel
      by_cases hlt : n < la.length
      · have hlt2 : n < lb.length := by omega
        obtain ⟨bkx, ox, xax, xbx, xex, hAx, hblx, hoex, hcx, hax, hbbx, hex⟩ := (HA.out.at_).2 n hlt
        obtain ⟨px0, px1, px2, px3, px4, px5, px6, px7⟩ := hcx.keep (fun i => HW.out.cell (p := ⟨bkx, i, none⟩) hblx)
        obtain ⟨Aax, cax, rfl⟩ := hax.slice
        obtain ⟨Abx, cbx, rfl⟩ := hbbx.slice
        obtain ⟨Aex, cex, rfl⟩ := hex.slice
        have Kxa := Lib.hid ((hax.keep (M' := wr.heap.size) HW.out.size fun q i hq => HW.out.cell (p := ⟨q, i, none⟩) hq).up (bal_dr wr))
        have Kxb := Lib.hid ((hbbx.keep (M' := wr.heap.size) HW.out.size fun q i hq => HW.out.cell (p := ⟨q, i, none⟩) hq).up (bal_dr wr))
        have Kxe := Lib.hid ((hex.keep (M' := wr.heap.size) HW.out.size fun q i hq => HW.out.cell (p := ⟨q, i, none⟩) hq).up (bal_dr wr))
        subst hAx
        clear hcx hax hbbx hex hoex
        obtain ⟨bky, oy, xay, xby, xey, hAy, hbly, hoey, hcy, hay, hbby, hey⟩ := (HB.out.at_).2 n hlt2
        obtain ⟨py0, py1, py2, py3, py4, py5, py6, py7⟩ := hcy.keep (fun i => HW.out.cell (p := ⟨bky, i, none⟩) hbly)
        obtain ⟨Aay, cay, rfl⟩ := hay.slice
        obtain ⟨Aby, cby, rfl⟩ := hbby.slice
        obtain ⟨Aey, cey, rfl⟩ := hey.slice
        have Kya := Lib.hid ((hay.keep (M' := wr.heap.size) HW.out.size fun q i hq => HW.out.cell (p := ⟨q, i, none⟩) hq).up (bal_dr wr))
        have Kyb := Lib.hid ((hbby.keep (M' := wr.heap.size) HW.out.size fun q i hq => HW.out.cell (p := ⟨q, i, none⟩) hq).up (bal_dr wr))
        have Kye := Lib.hid ((hey.keep (M' := wr.heap.size) HW.out.size fun q i hq => HW.out.cell (p := ⟨q, i, none⟩) hq).up (bal_dr wr))
        subst hAy
        clear hcy hay hbby hey hoey
        have hz := HW.out.size
        have hC := H.out _ (List.getElem_mem hlt) lb[n]
        have HY := Lib.hid (fun h : eqX la[n] lb[n] = true => take_snoc HT.out hlt hlt2 (eqX_iff.1 h))
        have HN := Lib.hid (fun h : eqX la[n] lb[n] = false => not_of fun e => el_ne hlt hlt2 (fun e' => by rw [eqX_iff.2 e'] at h; cases h) (eqLs_iff.1 e))
        generalize la[n] = x at *
        generalize lb[n] = y at *
        have HC := Lib.hid hC
        clear hC
        cases he : eqX x y with
        | true =>
          have HE := Lib.hid he
          clear he
          go_wp2_with fail
          go_region_with (first
            | (go_at_call 9; refine (HC.out _ _ _ _ _ _ _ (by exact Kxa.out) (by exact Kxb.out) (by exact Kxe.out) (by exact Kya.out) (by exact Kyb.out) (by exact Kye.out)).mono ?_; rintro r w2 ⟨rfl, hb⟩; have HB2 := Lib.hid (after HW.out (after (bal_dr wr) hb)); clear hb; rw [HE.out]))
          all_goals (
            go_wp2_with fail
            go_roundw
            case rel => exact ⟨n + 1, by omega, by go_num, Lib.hid (HY.out HE.out), HB2⟩
            case measure => simp [intOf]; omega)
        | false =>
          have HE := Lib.hid he
          clear he
          go_wp2_with fail
          go_region_with (first
            | (go_at_call 9; refine (HC.out _ _ _ _ _ _ _ (by exact Kxa.out) (by exact Kxb.out) (by exact Kxe.out) (by exact Kya.out) (by exact Kyb.out) (by exact Kye.out)).mono ?_; rintro r w2 ⟨rfl, hb⟩; have HB2 := Lib.hid (after HW.out (after (bal_dr wr) hb)); clear hb; rw [HE.out]))
          all_goals (
            go_wp2_with fail
            go_ret
            exact ⟨by rw [HN.out HE.out]; rfl, HB2.out⟩)
      · obtain rfl : n = la.length := by omega
        go_wp2_with fail
        go_ret
        exact ⟨by rw [eqLs_iff.2 (all_eq HL.out HT.out)]; rfl, HW.out⟩
  · have hl' : ((la.length : Int) != (lb.length : Int)) = true := by simp; omega
    have HL := Lib.hid hl
    clear hl
    go_enter Tryz.func20, Tryz.ntmps20
    go_wp2_with fail
    go_ret
    exact ⟨by rw [show eqLs la lb = false from not_of fun e => HL.out (by rw [eqLs_iff.1 e])]; rfl, Below.refl _ _⟩

set_option maxRecDepth 100000 in
set_option maxHeartbeats 4000000 in
theorem exact_0 (x y : St) (h0 : x.kind ≠ y.kind) (va vb ve ua ub ue : Value) (w : World) (hA1 : S3.EIn w w.heap.size x.args va) (hB1 : S3.SIn w w.heap.size x.body vb) (hE1 : S3.SIn w w.heap.size x.els ve) (hA2 : S3.EIn w w.heap.size y.args ua) (hB2 : S3.SIn w w.heap.size y.body ub) (hE2 : S3.SIn w w.heap.size y.els ue) :
    Calls Tryz.prog 9 #[S3.sV x va vb ve, S3.sV y ua ub ue] w fun r w' => r = .returned (.bool false) ∧ Below w.heap.size w w' := by
  obtain ⟨A1, c1, rfl⟩ := hA1.slice
  obtain ⟨A2, c2, rfl⟩ := hB1.slice
  obtain ⟨A3, c3, rfl⟩ := hE1.slice
  obtain ⟨A4, c4, rfl⟩ := hA2.slice
  obtain ⟨A5, c5, rfl⟩ := hB2.slice
  obtain ⟨A6, c6, rfl⟩ := hE2.slice
  have HA1 := Lib.hid hA1
  have HB1 := Lib.hid hB1
  have HE1 := Lib.hid hE1
  have HA2 := Lib.hid hA2
  have HBB := Lib.hid hB2
  have HE2 := Lib.hid hE2
  clear hA1 hB1 hE1 hA2 hB2 hE2
  have g0 : (x.kind == y.kind) = false := by simpa using h0
  clear h0
  go_enter Tryz.func9, Tryz.ntmps9
  try simp only [List.append_eq, List.cons_append, List.nil_append]
  go_wp2_with fail
  go_ret
  exact ⟨rfl, S3.bal2 _ _ _⟩

set_option maxRecDepth 100000 in
set_option maxHeartbeats 4000000 in
theorem exact_1 (x y : St) (h0 : x.kind = y.kind) (h1 : x.no ≠ y.no) (va vb ve ua ub ue : Value) (w : World) (hA1 : S3.EIn w w.heap.size x.args va) (hB1 : S3.SIn w w.heap.size x.body vb) (hE1 : S3.SIn w w.heap.size x.els ve) (hA2 : S3.EIn w w.heap.size y.args ua) (hB2 : S3.SIn w w.heap.size y.body ub) (hE2 : S3.SIn w w.heap.size y.els ue) :
    Calls Tryz.prog 9 #[S3.sV x va vb ve, S3.sV y ua ub ue] w fun r w' => r = .returned (.bool false) ∧ Below w.heap.size w w' := by
  obtain ⟨A1, c1, rfl⟩ := hA1.slice
  obtain ⟨A2, c2, rfl⟩ := hB1.slice
  obtain ⟨A3, c3, rfl⟩ := hE1.slice
  obtain ⟨A4, c4, rfl⟩ := hA2.slice
  obtain ⟨A5, c5, rfl⟩ := hB2.slice
  obtain ⟨A6, c6, rfl⟩ := hE2.slice
  have HA1 := Lib.hid hA1
  have HB1 := Lib.hid hB1
  have HE1 := Lib.hid hE1
  have HA2 := Lib.hid hA2
  have HBB := Lib.hid hB2
  have HE2 := Lib.hid hE2
  clear hA1 hB1 hE1 hA2 hB2 hE2
  have g0 : (x.kind == y.kind) = true := by simpa using h0
  have g1 : (x.no == y.no) = false := by simpa using h1
  clear h0 h1
  go_enter Tryz.func9, Tryz.ntmps9
  try simp only [List.append_eq, List.cons_append, List.nil_append]
  go_wp2_with fail
  go_ret
  exact ⟨rfl, S3.bal2 _ _ _⟩

set_option maxRecDepth 100000 in
set_option maxHeartbeats 4000000 in
theorem exact_2 (x y : St) (h0 : x.kind = y.kind) (h1 : x.no = y.no) (h2 : x.name ≠ y.name) (va vb ve ua ub ue : Value) (w : World) (hA1 : S3.EIn w w.heap.size x.args va) (hB1 : S3.SIn w w.heap.size x.body vb) (hE1 : S3.SIn w w.heap.size x.els ve) (hA2 : S3.EIn w w.heap.size y.args ua) (hB2 : S3.SIn w w.heap.size y.body ub) (hE2 : S3.SIn w w.heap.size y.els ue) :
    Calls Tryz.prog 9 #[S3.sV x va vb ve, S3.sV y ua ub ue] w fun r w' => r = .returned (.bool false) ∧ Below w.heap.size w w' := by
  obtain ⟨A1, c1, rfl⟩ := hA1.slice
  obtain ⟨A2, c2, rfl⟩ := hB1.slice
  obtain ⟨A3, c3, rfl⟩ := hE1.slice
  obtain ⟨A4, c4, rfl⟩ := hA2.slice
  obtain ⟨A5, c5, rfl⟩ := hB2.slice
  obtain ⟨A6, c6, rfl⟩ := hE2.slice
  have HA1 := Lib.hid hA1
  have HB1 := Lib.hid hB1
  have HE1 := Lib.hid hE1
  have HA2 := Lib.hid hA2
  have HBB := Lib.hid hB2
  have HE2 := Lib.hid hE2
  clear hA1 hB1 hE1 hA2 hB2 hE2
  have g0 : (x.kind == y.kind) = true := by simpa using h0
  have g1 : (x.no == y.no) = true := by simpa using h1
  have g2 : (x.name == y.name) = false := by simpa using h2
  clear h0 h1 h2
  go_enter Tryz.func9, Tryz.ntmps9
  try simp only [List.append_eq, List.cons_append, List.nil_append]
  go_wp2_with fail
  go_ret
  exact ⟨rfl, S3.bal2 _ _ _⟩

set_option maxRecDepth 100000 in
set_option maxHeartbeats 4000000 in
theorem exact_3 (x y : St) (h0 : x.kind = y.kind) (h1 : x.no = y.no) (h2 : x.name = y.name) (h3 : x.typ ≠ y.typ) (va vb ve ua ub ue : Value) (w : World) (hA1 : S3.EIn w w.heap.size x.args va) (hB1 : S3.SIn w w.heap.size x.body vb) (hE1 : S3.SIn w w.heap.size x.els ve) (hA2 : S3.EIn w w.heap.size y.args ua) (hB2 : S3.SIn w w.heap.size y.body ub) (hE2 : S3.SIn w w.heap.size y.els ue) :
    Calls Tryz.prog 9 #[S3.sV x va vb ve, S3.sV y ua ub ue] w fun r w' => r = .returned (.bool false) ∧ Below w.heap.size w w' := by
  obtain ⟨A1, c1, rfl⟩ := hA1.slice
  obtain ⟨A2, c2, rfl⟩ := hB1.slice
  obtain ⟨A3, c3, rfl⟩ := hE1.slice
  obtain ⟨A4, c4, rfl⟩ := hA2.slice
  obtain ⟨A5, c5, rfl⟩ := hB2.slice
  obtain ⟨A6, c6, rfl⟩ := hE2.slice
  have HA1 := Lib.hid hA1
  have HB1 := Lib.hid hB1
  have HE1 := Lib.hid hE1
  have HA2 := Lib.hid hA2
  have HBB := Lib.hid hB2
  have HE2 := Lib.hid hE2
  clear hA1 hB1 hE1 hA2 hB2 hE2
  have g0 : (x.kind == y.kind) = true := by simpa using h0
  have g1 : (x.no == y.no) = true := by simpa using h1
  have g2 : (x.name == y.name) = true := by simpa using h2
  have g3 : (x.typ == y.typ) = false := by simpa using h3
  clear h0 h1 h2 h3
  go_enter Tryz.func9, Tryz.ntmps9
  try simp only [List.append_eq, List.cons_append, List.nil_append]
  go_wp2_with fail
  go_ret
  exact ⟨rfl, S3.bal2 _ _ _⟩

set_option maxRecDepth 100000 in
set_option maxHeartbeats 4000000 in
theorem exact_4 (x y : St) (h0 : x.kind = y.kind) (h1 : x.no = y.no) (h2 : x.name = y.name) (h3 : x.typ = y.typ) (h4 : x.callee ≠ y.callee) (va vb ve ua ub ue : Value) (w : World) (hA1 : S3.EIn w w.heap.size x.args va) (hB1 : S3.SIn w w.heap.size x.body vb) (hE1 : S3.SIn w w.heap.size x.els ve) (hA2 : S3.EIn w w.heap.size y.args ua) (hB2 : S3.SIn w w.heap.size y.body ub) (hE2 : S3.SIn w w.heap.size y.els ue) :
    Calls Tryz.prog 9 #[S3.sV x va vb ve, S3.sV y ua ub ue] w fun r w' => r = .returned (.bool false) ∧ Below w.heap.size w w' := by
  obtain ⟨A1, c1, rfl⟩ := hA1.slice
  obtain ⟨A2, c2, rfl⟩ := hB1.slice
  obtain ⟨A3, c3, rfl⟩ := hE1.slice
  obtain ⟨A4, c4, rfl⟩ := hA2.slice
  obtain ⟨A5, c5, rfl⟩ := hB2.slice
  obtain ⟨A6, c6, rfl⟩ := hE2.slice
  have HA1 := Lib.hid hA1
  have HB1 := Lib.hid hB1
  have HE1 := Lib.hid hE1
  have HA2 := Lib.hid hA2
  have HBB := Lib.hid hB2
  have HE2 := Lib.hid hE2
  clear hA1 hB1 hE1 hA2 hB2 hE2
  have g0 : (x.kind == y.kind) = true := by simpa using h0
  have g1 : (x.no == y.no) = true := by simpa using h1
  have g2 : (x.name == y.name) = true := by simpa using h2
  have g3 : (x.typ == y.typ) = true := by simpa using h3
  have g4 : (x.callee == y.callee) = false := by simpa using h4
  clear h0 h1 h2 h3 h4
  go_enter Tryz.func9, Tryz.ntmps9
  try simp only [List.append_eq, List.cons_append, List.nil_append]
  go_wp2_with fail
  go_ret
  exact ⟨rfl, S3.bal2 _ _ _⟩

set_option maxRecDepth 100000 in
set_option maxHeartbeats 4000000 in
theorem exact_5 (x y : St) (h0 : x.kind = y.kind) (h1 : x.no = y.no) (h2 : x.name = y.name) (h3 : x.typ = y.typ) (h4 : x.callee = y.callee) (h5 : eqEs x.args y.args = false) (va vb ve ua ub ue : Value) (w : World) (hA1 : S3.EIn w w.heap.size x.args va) (hB1 : S3.SIn w w.heap.size x.body vb) (hE1 : S3.SIn w w.heap.size x.els ve) (hA2 : S3.EIn w w.heap.size y.args ua) (hB2 : S3.SIn w w.heap.size y.body ub) (hE2 : S3.SIn w w.heap.size y.els ue) :
    Calls Tryz.prog 9 #[S3.sV x va vb ve, S3.sV y ua ub ue] w fun r w' => r = .returned (.bool false) ∧ Below w.heap.size w w' := by
  obtain ⟨A1, c1, rfl⟩ := hA1.slice
  obtain ⟨A2, c2, rfl⟩ := hB1.slice
  obtain ⟨A3, c3, rfl⟩ := hE1.slice
  obtain ⟨A4, c4, rfl⟩ := hA2.slice
  obtain ⟨A5, c5, rfl⟩ := hB2.slice
  obtain ⟨A6, c6, rfl⟩ := hE2.slice
  have HA1 := Lib.hid hA1
  have HB1 := Lib.hid hB1
  have HE1 := Lib.hid hE1
  have HA2 := Lib.hid hA2
  have HBB := Lib.hid hB2
  have HE2 := Lib.hid hE2
  clear hA1 hB1 hE1 hA2 hB2 hE2
  have g0 : (x.kind == y.kind) = true := by simpa using h0
  have g1 : (x.no == y.no) = true := by simpa using h1
  have g2 : (x.name == y.name) = true := by simpa using h2
  have g3 : (x.typ == y.typ) = true := by simpa using h3
  have g4 : (x.callee == y.callee) = true := by simpa using h4
  have H5 := Lib.hid h5
  clear h0 h1 h2 h3 h4 h5
  go_enter Tryz.func9, Tryz.ntmps9
  try simp only [List.append_eq, List.cons_append, List.nil_append]
  go_wp2_with fail
  refine (exprsC_calls x.args y.args _ _ _ (HA1.out.up (S3.bal2 _ _ _)) (HA2.out.up (S3.bal2 _ _ _))).mono ?_
  rintro r w2 ⟨rfl, hb⟩
  have HB2 := Lib.hid (after (S3.bal2 _ _ _) hb)
  clear hb
  rw [H5.out]
  go_wp2_with fail
  go_ret
  exact ⟨rfl, HB2.out⟩

set_option maxRecDepth 100000 in
set_option maxHeartbeats 4000000 in
theorem exact_6 (x y : St) (h0 : x.kind = y.kind) (h1 : x.no = y.no) (h2 : x.name = y.name) (h3 : x.typ = y.typ) (h4 : x.callee = y.callee) (h5 : eqEs x.args y.args = true) (h6 : eqLs x.body y.body = false) (hbf : ∀ (va vb : Value) (w : World), S3.SIn w w.heap.size x.body va → S3.SIn w w.heap.size y.body vb → Calls Tryz.prog 20 #[va, vb] w fun r w_ => r = .returned (.bool (eqLs x.body y.body)) ∧ Below w.heap.size w w_) (va vb ve ua ub ue : Value) (w : World) (hA1 : S3.EIn w w.heap.size x.args va) (hB1 : S3.SIn w w.heap.size x.body vb) (hE1 : S3.SIn w w.heap.size x.els ve) (hA2 : S3.EIn w w.heap.size y.args ua) (hB2 : S3.SIn w w.heap.size y.body ub) (hE2 : S3.SIn w w.heap.size y.els ue) :
    Calls Tryz.prog 9 #[S3.sV x va vb ve, S3.sV y ua ub ue] w fun r w' => r = .returned (.bool false) ∧ Below w.heap.size w w' := by
  obtain ⟨A1, c1, rfl⟩ := hA1.slice
  obtain ⟨A2, c2, rfl⟩ := hB1.slice
  obtain ⟨A3, c3, rfl⟩ := hE1.slice
  obtain ⟨A4, c4, rfl⟩ := hA2.slice
  obtain ⟨A5, c5, rfl⟩ := hB2.slice
  obtain ⟨A6, c6, rfl⟩ := hE2.slice
  have HA1 := Lib.hid hA1
  have HB1 := Lib.hid hB1
  have HE1 := Lib.hid hE1
  have HA2 := Lib.hid hA2
  have HBB := Lib.hid hB2
  have HE2 := Lib.hid hE2
  have HX1 := Lib.hid ((S3.SBox.new w x (.slice A1 x.args.length c1) (.slice A2 x.body.length c2) (.slice A3 x.els.length c3)).keep (S3.bal _ (S3.sO y (.slice A4 y.args.length c4) (.slice A5 y.body.length c5) (.slice A6 y.els.length c6))) (by simp))
  have HX2 := Lib.hid (S3.SBox.new (w.alloc (S3.sO x (.slice A1 x.args.length c1) (.slice A2 x.body.length c2) (.slice A3 x.els.length c3))) y (.slice A4 y.args.length c4) (.slice A5 y.body.length c5) (.slice A6 y.els.length c6))
  clear hA1 hB1 hE1 hA2 hB2 hE2
  have g0 : (x.kind == y.kind) = true := by simpa using h0
  have g1 : (x.no == y.no) = true := by simpa using h1
  have g2 : (x.name == y.name) = true := by simpa using h2
  have g3 : (x.typ == y.typ) = true := by simpa using h3
  have g4 : (x.callee == y.callee) = true := by simpa using h4
  have H5 := Lib.hid h5
  have H6 := Lib.hid h6
  clear h0 h1 h2 h3 h4 h5 h6
  go_enter Tryz.func9, Tryz.ntmps9
  try simp only [List.append_eq, List.cons_append, List.nil_append]
  go_wp2_with fail
  refine (exprsC_calls x.args y.args _ _ _ (HA1.out.up (S3.bal2 _ _ _)) (HA2.out.up (S3.bal2 _ _ _))).mono ?_
  rintro r w2 ⟨rfl, hb⟩
  have HB2 := Lib.hid (after (S3.bal2 _ _ _) hb)
  have X1 := HX1.out.keep hb (by simp; omega)
  have X2 := HX2.out.keep hb (by simp)
  rw [S3.sz1] at X2
  have hz : w.heap.size + 2 ≤ w2.heap.size := by have := hb.size; simpa using this
  have hz1 : w.heap.size + 1 < w2.heap.size := by omega
  have HY1 := Lib.hid X1
  have HY2 := Lib.hid X2
  have p6 := X1.c6
  have r6 := X2.c6
  clear hb X1 X2
  rw [H5.out]
  go_wp2_with fail
  refine (hbf _ _ _ (HB1.out.up HB2.out) (HBB.out.up HB2.out)).mono ?_
  rintro r w3 ⟨rfl, hb⟩
  have HB3 := Lib.hid (after HB2.out hb)
  clear hb p6 r6
  rw [H6.out]
  go_wp2_with fail
  go_ret
  exact ⟨rfl, HB3.out⟩

set_option maxRecDepth 100000 in
set_option maxHeartbeats 4000000 in
theorem exact_7 (x y : St) (h0 : x.kind = y.kind) (h1 : x.no = y.no) (h2 : x.name = y.name) (h3 : x.typ = y.typ) (h4 : x.callee = y.callee) (h5 : eqEs x.args y.args = true) (h6 : eqLs x.body y.body = true) (hbf : ∀ (va vb : Value) (w : World), S3.SIn w w.heap.size x.body va → S3.SIn w w.heap.size y.body vb → Calls Tryz.prog 20 #[va, vb] w fun r w_ => r = .returned (.bool (eqLs x.body y.body)) ∧ Below w.heap.size w w_) (hef : ∀ (va vb : Value) (w : World), S3.SIn w w.heap.size x.els va → S3.SIn w w.heap.size y.els vb → Calls Tryz.prog 20 #[va, vb] w fun r w_ => r = .returned (.bool (eqLs x.els y.els)) ∧ Below w.heap.size w w_) (va vb ve ua ub ue : Value) (w : World) (hA1 : S3.EIn w w.heap.size x.args va) (hB1 : S3.SIn w w.heap.size x.body vb) (hE1 : S3.SIn w w.heap.size x.els ve) (hA2 : S3.EIn w w.heap.size y.args ua) (hB2 : S3.SIn w w.heap.size y.body ub) (hE2 : S3.SIn w w.heap.size y.els ue) :
    Calls Tryz.prog 9 #[S3.sV x va vb ve, S3.sV y ua ub ue] w fun r w' => r = .returned (.bool (eqLs x.els y.els)) ∧ Below w.heap.size w w' := by
  obtain ⟨A1, c1, rfl⟩ := hA1.slice
  obtain ⟨A2, c2, rfl⟩ := hB1.slice
  obtain ⟨A3, c3, rfl⟩ := hE1.slice
  obtain ⟨A4, c4, rfl⟩ := hA2.slice
  obtain ⟨A5, c5, rfl⟩ := hB2.slice
  obtain ⟨A6, c6, rfl⟩ := hE2.slice
  have HA1 := Lib.hid hA1
  have HB1 := Lib.hid hB1
  have HE1 := Lib.hid hE1
  have HA2 := Lib.hid hA2
  have HBB := Lib.hid hB2
  have HE2 := Lib.hid hE2
  have HX1 := Lib.hid ((S3.SBox.new w x (.slice A1 x.args.length c1) (.slice A2 x.body.length c2) (.slice A3 x.els.length c3)).keep (S3.bal _ (S3.sO y (.slice A4 y.args.length c4) (.slice A5 y.body.length c5) (.slice A6 y.els.length c6))) (by simp))
  have HX2 := Lib.hid (S3.SBox.new (w.alloc (S3.sO x (.slice A1 x.args.length c1) (.slice A2 x.body.length c2) (.slice A3 x.els.length c3))) y (.slice A4 y.args.length c4) (.slice A5 y.body.length c5) (.slice A6 y.els.length c6))
  clear hA1 hB1 hE1 hA2 hB2 hE2
  have g0 : (x.kind == y.kind) = true := by simpa using h0
  have g1 : (x.no == y.no) = true := by simpa using h1
  have g2 : (x.name == y.name) = true := by simpa using h2
  have g3 : (x.typ == y.typ) = true := by simpa using h3
  have g4 : (x.callee == y.callee) = true := by simpa using h4
  have H5 := Lib.hid h5
  have H6 := Lib.hid h6
  clear h0 h1 h2 h3 h4 h5 h6
  go_enter Tryz.func9, Tryz.ntmps9
  try simp only [List.append_eq, List.cons_append, List.nil_append]
  go_wp2_with fail
  refine (exprsC_calls x.args y.args _ _ _ (HA1.out.up (S3.bal2 _ _ _)) (HA2.out.up (S3.bal2 _ _ _))).mono ?_
  rintro r w2 ⟨rfl, hb⟩
  have HB2 := Lib.hid (after (S3.bal2 _ _ _) hb)
  have X1 := HX1.out.keep hb (by simp; omega)
  have X2 := HX2.out.keep hb (by simp)
  rw [S3.sz1] at X2
  have hz : w.heap.size + 2 ≤ w2.heap.size := by have := hb.size; simpa using this
  have hz1 : w.heap.size + 1 < w2.heap.size := by omega
  have HY1 := Lib.hid X1
  have HY2 := Lib.hid X2
  have p6 := X1.c6
  have r6 := X2.c6
  clear hb X1 X2
  rw [H5.out]
  go_wp2_with fail
  refine (hbf _ _ _ (HB1.out.up HB2.out) (HBB.out.up HB2.out)).mono ?_
  rintro r w3 ⟨rfl, hb⟩
  have HB3 := Lib.hid (after HB2.out hb)
  have p7 := (HY1.out.keep hb (by omega)).c7
  have r7 := (HY2.out.keep hb (by omega)).c7
  clear hb p6 r6
  rw [H6.out]
  go_wp2_with fail
  refine (hef _ _ _ (HE1.out.up HB3.out) (HE2.out.up HB3.out)).mono ?_
  rintro r w4 ⟨rfl, hb⟩
  have HB4 := Lib.hid (after HB3.out hb)
  clear hb
  go_wp2_with fail
  go_ret
  exact ⟨rfl, HB4.out⟩

theorem exactC_all (n : Nat) : ∀ a : St, SizeOf.sizeOf a < n → ∀ b, EqS a b := by
  induction n with
  | zero => intro a h; omega
  | succ n ih =>
    intro a ha b va vb ve ua ub ue w h1 h2 h3 h4 h5 h6
    have hs : SizeOf.sizeOf a.body < SizeOf.sizeOf a ∧ SizeOf.sizeOf a.els < SizeOf.sizeOf a := by cases a; simp; omega
    by_cases f0 : a.kind = b.kind
    · by_cases f1 : a.no = b.no
      · by_cases f2 : a.name = b.name
        · by_cases f3 : a.typ = b.typ
          · by_cases f4 : a.callee = b.callee
            · have hbf : ∀ (va vb : Value) (w : World), S3.SIn w w.heap.size a.body va → S3.SIn w w.heap.size b.body vb → Calls Tryz.prog 20 #[va, vb] w fun r w_ => r = .returned (.bool (eqLs a.body b.body)) ∧ Below w.heap.size w w_ := fun va vb w k1 k2 => all_of a.body b.body (fun x hx y => ih x (by have := List.sizeOf_lt_of_mem hx; omega) y) va vb w k1 k2
              have hef : ∀ (va vb : Value) (w : World), S3.SIn w w.heap.size a.els va → S3.SIn w w.heap.size b.els vb → Calls Tryz.prog 20 #[va, vb] w fun r w_ => r = .returned (.bool (eqLs a.els b.els)) ∧ Below w.heap.size w w_ := fun va vb w k1 k2 => all_of a.els b.els (fun x hx y => ih x (by have := List.sizeOf_lt_of_mem hx; omega) y) va vb w k1 k2
              cases f5 : eqEs a.args b.args with
              | false => rw [show eqX a b = false from not_of fun e => by rw [eqX_iff.1 e, eqEs_iff.2 rfl] at f5; cases f5]; exact exact_5 a b f0 f1 f2 f3 f4 f5 va vb ve ua ub ue w h1 h2 h3 h4 h5 h6
              | true =>
                cases f6 : eqLs a.body b.body with
                | false => rw [show eqX a b = false from not_of fun e => by rw [eqX_iff.1 e, eqLs_iff.2 rfl] at f6; cases f6]; exact exact_6 a b f0 f1 f2 f3 f4 f5 f6 hbf va vb ve ua ub ue w h1 h2 h3 h4 h5 h6
                | true =>
                  have e : eqX a b = eqLs a.els b.els := by
                    have f5' := eqEs_iff.1 f5
                    have f6' := eqLs_iff.1 f6
                    cases a; cases b
                    simp only at f0 f1 f2 f3 f4 f5' f6'
                    subst f0 f1 f2 f3 f4 f5' f6'
                    simp [eqX, eqLs]
                  rw [e]
                  exact exact_7 a b f0 f1 f2 f3 f4 f5 f6 hbf hef va vb ve ua ub ue w h1 h2 h3 h4 h5 h6
            · rw [show eqX a b = false from not_of fun e => f4 (by rw [eqX_iff.1 e])]; exact exact_4 a b f0 f1 f2 f3 f4 va vb ve ua ub ue w h1 h2 h3 h4 h5 h6
          · rw [show eqX a b = false from not_of fun e => f3 (by rw [eqX_iff.1 e])]; exact exact_3 a b f0 f1 f2 f3 va vb ve ua ub ue w h1 h2 h3 h4 h5 h6
        · rw [show eqX a b = false from not_of fun e => f2 (by rw [eqX_iff.1 e])]; exact exact_2 a b f0 f1 f2 va vb ve ua ub ue w h1 h2 h3 h4 h5 h6
      · rw [show eqX a b = false from not_of fun e => f1 (by rw [eqX_iff.1 e])]; exact exact_1 a b f0 f1 va vb ve ua ub ue w h1 h2 h3 h4 h5 h6
    · rw [show eqX a b = false from not_of fun e => f0 (by rw [eqX_iff.1 e])]; exact exact_0 a b f0 va vb ve ua ub ue w h1 h2 h3 h4 h5 h6
theorem exactC_calls (a b : St) : EqS a b := exactC_all (SizeOf.sizeOf a + 1) a (by omega) b
theorem allC_calls (la lb : List St) (va vb : Value) (w : World) (hA : S3.SIn w w.heap.size la va) (hB : S3.SIn w w.heap.size lb vb) :
    Calls Tryz.prog 20 #[va, vb] w fun r w' => r = .returned (.bool (eqLs la lb)) ∧ Below w.heap.size w w' := all_of la lb (fun x _ y => exactC_calls x y) va vb w hA hB
end Go.Proofs.YtipepljmfgjbpaaGreatDoor.E6

namespace Go.Proofs.YtipepljmfgjbpaaGreatDoor.E6
open Go Go.RowKit Go.Proofs.YtipepljmfgjbpaaGreatDoor Go.Proofs.YtipepljmfgjbpaaGreatDoor.E5

/-- What few gives: if it says yes, there are at most 400 tokens. -/
def FewR (w : World) (l : TL) (e : Ending) (w' : World) : Prop := ∃ b : Bool, e = .returned (.bool b) ∧ (b = true → l.length ≤ 400) ∧ Below w.heap.size w w'
set_option maxRecDepth 100000 in
set_option maxHeartbeats 4000000 in
/-- few: if it says yes, there are at most 400 tokens. -/
theorem few_calls {w : World} {l : TL} {v : Value} (hT : TokL w w.heap.size v l) :
    Calls Tryz.prog 6 #[v] w (FewR w l) := by
  obtain ⟨A, c, rfl, hlen, hel⟩ := hT
  have HEL := Lib.hid hel
  clear hel
  go_enter Tryz.func6, Tryz.ntmps6
  go_wp2_with fail
  go_loopw [3, 4] (fun k i wr => ∃ (n : Nat) (a : Int), n ≤ l.length ∧ n ≤ 401 ∧ i = .int .i64 n ∧ k = .int .i64 a ∧ Hid (Below w.heap.size w wr)) (fun _ i _ => l.length - (intOf i).toNat)
  case atStart => exact ⟨0, 0, by omega, by omega, rfl, rfl, Lib.hid (Below.refl _ _)⟩
  case round =>
    obtain ⟨n, a, hn, hn4, rfl, rfl, HW⟩ := hrel
    by_cases hlt : n < l.length
    · by_cases h4 : n ≤ 400
      · obtain ⟨ht, b, o, z, hA, hbl, d0, d1, d2⟩ := HEL.out n l[n] (List.getElem?_eq_getElem hlt)
        have d1 := (HW.out.cell (p := ⟨b, o + n * 3 + 1, none⟩) hbl).trans d1
        subst hA
        clear d0 d2
        generalize l[n] = t at *
        obtain ⟨t1, t2⟩ := t
        simp only at d1 ht
        go_wp2_with fail
        go_roundw
        case rel => exact ⟨n + 1, _, by omega, by omega, by go_num, rfl, HW⟩
        case measure => simp [intOf]; omega
      · have h4' : ¬ (l.length : Int) ≤ 400 := by omega
        go_wp2_with fail
        go_ret
        exact ⟨false, rfl, (fun h => by cases h), HW.out⟩
    · obtain rfl : n = l.length := by omega
      by_cases h4 : (l.length : Int) ≤ 400
      · by_cases h5 : a ≤ 3000
        · go_wp2_with fail
          go_ret
          exact ⟨true, rfl, (fun _ => by omega), HW.out⟩
        · go_wp2_with fail
          go_ret
          exact ⟨false, rfl, (fun h => by cases h), HW.out⟩
      · go_wp2_with fail
        go_ret
        exact ⟨false, rfl, (fun h => by cases h), HW.out⟩
end Go.Proofs.YtipepljmfgjbpaaGreatDoor.E6
