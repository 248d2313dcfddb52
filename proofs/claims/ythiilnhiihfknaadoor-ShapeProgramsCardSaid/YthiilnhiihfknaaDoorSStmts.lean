/-
  The reference's stmts: contract. Written by gen3_refs.py.
  The reference's SameStmt: contract.
  The law's own stmts: what it counts is bounded.
  ShapeStmts returns true.
-/
import Derived.Test.YthiilnhiihfknaaDoorSRefST
import Derived.Test.YthiilnhiihfknaaDoorSRefS0
import Derived.Test.YthiilnhiihfknaaDoorSRefS1
import Derived.Test.YthiilnhiihfknaaDoorSRefS2
import Derived.Test.YthiilnhiihfknaaDoorSRefS3
import Derived.Test.YthiilnhiihfknaaDoorSRefS4
import Derived.Test.YthiilnhiihfknaaDoorSRefS5
import Derived.Test.YthiilnhiihfknaaDoorSRefS6
import Derived.Test.YthiilnhiihfknaaDoorSNumber
import Derived.RegionTactic
import Derived.ChangeAlike
import Derived.BigRegion
import Derived.Test.YthiilnhiihfknaaDoorSLaw
import Derived.BigQuiet
namespace Go.Proofs.YthiilnhiihfknaaDoor
open Go Go.RowKit

/-- The first index at which two lists part. -/
theorem first_diff {α : Type} (f : α → α → Prop) : ∀ (la lb : List α), la.length = lb.length → (∀ i (h1 : i < la.length) (h2 : i < lb.length), f la[i] lb[i]) ∨ ∃ m, ∃ (h1 : m < la.length) (h2 : m < lb.length), ¬ f la[m] lb[m] ∧ ∀ i (hi : i < m), f (la[i]'(by omega)) (lb[i]'(by omega)) := by
  intro la
  induction la with
  | nil => intro lb h; exact .inl (fun i h1 _ => by simp at h1)
  | cons a la ih =>
    intro lb h
    cases lb with
    | nil => simp at h
    | cons b lb =>
      by_cases hab : f a b
      · rcases ih lb (by simpa using h) with hi | ⟨m, h1, h2, h3, h4⟩
        · refine .inl fun i h1 h2 => ?_
          cases i with
          | zero => exact hab
          | succ i => exact hi i (by simpa using h1) (by simpa using h2)
        · refine .inr ⟨m + 1, by simpa using h1, by simpa using h2, h3, fun i hi => ?_⟩
          cases i with
          | zero => exact hab
          | succ i => exact h4 i (by omega)
      · exact .inr ⟨0, by simp, by simp, hab, fun i hi => by omega⟩
theorem map_take_eq {la lb : List St} {m : Nat} (h1 : m ≤ la.length) (h2 : m ≤ lb.length) (h : ∀ i (hi : i < m), erS (la[i]'(by omega)) = erS (lb[i]'(by omega))) : (la.take m).map erS = (lb.take m).map erS := by
  apply List.ext_getElem
  · simp; omega
  · intro i h3 h4
    simp at h3
    simpa using h i (by omega)

theorem refStmts_all (m : Nat) : ∀ la : List St, SizeOf.sizeOf la < m → ∀ (lb : List St) (va vb : Value) (w : World), SIn w w.heap.size la va → SIn w w.heap.size lb vb →
    Calls Tryd.prog 62 #[va, vb] w fun r w' => r = .returned (.bool (eqSl la lb)) ∧ Below w.heap.size w w' := by
  induction m with
  | zero => intro la h; omega
  | succ m ih =>
    intro la hm lb va vb w hA hB
    have IHx : ∀ x : St, x ∈ la → SizeOf.sizeOf x.body < m ∧ SizeOf.sizeOf x.els < m := fun x hx => by
      have h2 := List.sizeOf_lt_of_mem hx
      have h3 : SizeOf.sizeOf x.body < SizeOf.sizeOf x ∧ SizeOf.sizeOf x.els < SizeOf.sizeOf x := by cases x; simp; omega
      omega
    have IH := fun (x : St) (hx : x ∈ la) => And.intro (ih x.body (IHx x hx).1) (ih x.els (IHx x hx).2)
    by_cases hl : la.length = lb.length
    · rcases first_diff (fun a b => erS a = erS b) la lb hl with hall | ⟨i, h1, h2, hd, hp⟩
      · have hmap : la.map erS = lb.map erS := by
          have := map_take_eq (m := la.length) (Nat.le_refl _) (by omega) (fun j hj => hall j hj (by omega))
          rw [List.take_length, hl, List.take_length] at this
          exact this
        rw [eqSl_of hmap]
        exact refStmts_T la lb IH hl hmap va vb w hA hB
      · have heq := map_take_eq (by omega) (by omega) hp
        have hf : eqSl la lb = false := eqSl_no h1 h2 (eqSt_not hd)
        rw [hf]
        by_cases f0 : la[i].kind = lb[i].kind
        · by_cases f1 : la[i].name = lb[i].name
          · by_cases f2 : la[i].typ = lb[i].typ
            · by_cases f3 : la[i].callee = lb[i].callee
              · cases f4 : eqEs la[i].args lb[i].args with
                | false => exact refStmts_4 la lb IH hl i h1 h2 heq f0 f1 f2 f3 f4 va vb w hA hB
                | true =>
                  cases f5 : eqSl la[i].body lb[i].body with
                  | false => exact refStmts_5 la lb IH hl i h1 h2 heq f0 f1 f2 f3 f4 f5 va vb w hA hB
                  | true =>
                    cases f6 : eqSl la[i].els lb[i].els with
                    | false => exact refStmts_6 la lb IH hl i h1 h2 heq f0 f1 f2 f3 f4 f5 f6 va vb w hA hB
                    | true =>
                      have := eqSt_mk f0 f1 f2 f3 f4 f5
                      rw [f6] at this
                      exact absurd (eqSt_yes this) hd
              · exact refStmts_3 la lb IH hl i h1 h2 heq f0 f1 f2 f3 va vb w hA hB
            · exact refStmts_2 la lb IH hl i h1 h2 heq f0 f1 f2 va vb w hA hB
          · exact refStmts_1 la lb IH hl i h1 h2 heq f0 f1 va vb w hA hB
        · exact refStmts_0 la lb IH hl i h1 h2 heq f0 va vb w hA hB
    · rw [eqSl_len hl]
      obtain ⟨A1, c1, rfl⟩ := hA.slice
      obtain ⟨A2, c2, rfl⟩ := hB.slice
      have l1 := hA.le
      have l2 := hB.le
      have hl' : ((la.length : Int) != (lb.length : Int)) = true := by simp; omega
      have HL := Lib.hid hl
      clear hl ih IH IHx hA hB hm
      go_enter Tryd.func62, Tryd.ntmps62
      simp only [List.append_eq, List.cons_append, List.nil_append]
      go_wp2_with fail
      go_ret
      exact ⟨rfl, Below.refl _ _⟩
theorem refStmts_calls (la lb : List St) (va vb : Value) (w : World) (hA : SIn w w.heap.size la va) (hB : SIn w w.heap.size lb vb) :
    Calls Tryd.prog 62 #[va, vb] w fun r w' => r = .returned (.bool (eqSl la lb)) ∧ Below w.heap.size w w' := refStmts_all _ la (Nat.lt_succ_self _) lb va vb w hA hB
end Go.Proofs.YthiilnhiihfknaaDoor

namespace Go.Proofs.YthiilnhiihfknaaDoor
open Go Go.RowKit Go.Sort

theorem szI_pos (a : St) : decide (0 < szI 20 [a] 200) = rightL [a] := by
  unfold szI rightL
  have e : vis FA 20 [a] (200 - 200) = vis (fun _ s => headB s) 20 [a] 0 := rfl
  rw [e]
  cases h : vis (fun _ s => headB s) 20 [a] 0 with
  | none => rfl
  | some n =>
    have h' : vis FA (19 + 1) [a] 0 = some n := h
    rw [vis_succ, List.foldlM_cons] at h'
    have h1 : 1 ≤ n := by
      by_cases h0 : FA 0 a = false
      · simp [visS, h0] at h'
      · have h2 : FA 0 a = true := by simpa using h0
        cases h3 : vis FA 19 a.body 1 with
        | none => simp [visS, h2, h3] at h'
        | some n1 =>
          cases h4 : vis FA 19 a.els n1 with
          | none => simp [visS, h2, h3, h4] at h'
          | some n2 =>
            simp [visS, h2, h3, h4] at h'
            have b1 := vis_bounds FA 19 _ _ _ h3 (by omega)
            have b2 := vis_bounds FA 19 _ _ _ h4 (by omega)
            omega
    simp
    omega
theorem szI_yes {a : St} (h : rightL [a] = true) : ∃ z : Int, szI 20 [a] 200 = z ∧ 0 < z := ⟨_, rfl, by have := szI_pos a; rw [h] at this; simpa using this⟩
theorem szI_not {a : St} (h : rightL [a] = false) : ∃ z : Int, szI 20 [a] 200 = z ∧ ¬ 0 < z := ⟨_, rfl, by have := szI_pos a; rw [h] at this; simpa using this⟩

set_option maxRecDepth 100000 in
set_option maxHeartbeats 4000000 in
theorem refSameStmt_calls (a b : St) (ha : OkS a) (hb : OkS b) (va vb ve ua ub ue : Value) (w : World) (hA1 : EIn w w.heap.size a.args va) (hB1 : SIn w w.heap.size a.body vb) (hE1 : SIn w w.heap.size a.els ve) (hA2 : EIn w w.heap.size b.args ua) (hB2 : SIn w w.heap.size b.body ub) (hE2 : SIn w w.heap.size b.els ue) :
    Calls Tryd.prog 32 #[sV a va vb ve, sV b ua ub ue] w fun r w' => r = .returned (.bool (sameSt a b)) ∧ Below w.heap.size w w' := by
  obtain ⟨A1, c1, rfl⟩ := hA1.slice
  obtain ⟨A2, c2, rfl⟩ := hB1.slice
  obtain ⟨A3, c3, rfl⟩ := hE1.slice
  obtain ⟨A4, c4, rfl⟩ := hA2.slice
  obtain ⟨A5, c5, rfl⟩ := hB2.slice
  obtain ⟨A6, c6, rfl⟩ := hE2.slice
  have HA1 := Lib.hid hA1
  have HB1 := Lib.hid hB1
  have HE1 := Lib.hid hE1
  have HA2 := Lib.hid hA2
  have HBB := Lib.hid hB2
  have HE2 := Lib.hid hE2
  clear hA1 hB1 hE1 hA2 hB2 hE2
  have S1 := SIn.fresh (c := 1) (w := ((w.alloc (sO a (.slice A1 a.args.length c1) (.slice A2 a.body.length c2) (.slice A3 a.els.length c3))).alloc (sO b (.slice A4 b.args.length c4) (.slice A5 b.body.length c5) (.slice A6 b.els.length c6)))) (g := w.heap.size + 1 + 1) (by rw [sz1, sz1]) ha (HA1.out.up (bal2 w _ _)) (HB1.out.up (bal2 w _ _)) (HE1.out.up (bal2 w _ _))
  have S2 := SIn.fresh (c := 1) (w := ((w.alloc (sO a (.slice A1 a.args.length c1) (.slice A2 a.body.length c2) (.slice A3 a.els.length c3))).alloc (sO b (.slice A4 b.args.length c4) (.slice A5 b.body.length c5) (.slice A6 b.els.length c6)))) (g := w.heap.size + 1 + 1) (by rw [sz1, sz1]) hb (HA2.out.up (bal2 w _ _)) (HBB.out.up (bal2 w _ _)) (HE2.out.up (bal2 w _ _))
  have T1 := SIn.fresh (c := 1) (w := ((w.alloc (sO a (.slice A1 a.args.length c1) (.slice A2 a.body.length c2) (.slice A3 a.els.length c3))).alloc (sO b (.slice A4 b.args.length c4) (.slice A5 b.body.length c5) (.slice A6 b.els.length c6))).alloc (sO b (.slice A4 b.args.length c4) (.slice A5 b.body.length c5) (.slice A6 b.els.length c6))) (g := w.heap.size + 1 + 1 + 1) (by rw [sz1, sz1, sz1]) ha (HA1.out.up (bal3 w _ _ _)) (HB1.out.up (bal3 w _ _ _)) (HE1.out.up (bal3 w _ _ _))
  have T2 := SIn.fresh (c := 1) (w := ((w.alloc (sO a (.slice A1 a.args.length c1) (.slice A2 a.body.length c2) (.slice A3 a.els.length c3))).alloc (sO b (.slice A4 b.args.length c4) (.slice A5 b.body.length c5) (.slice A6 b.els.length c6))).alloc (sO a (.slice A1 a.args.length c1) (.slice A2 a.body.length c2) (.slice A3 a.els.length c3))) (g := w.heap.size + 1 + 1 + 1) (by rw [sz1, sz1, sz1]) hb (HA2.out.up (bal3 w _ _ _)) (HBB.out.up (bal3 w _ _ _)) (HE2.out.up (bal3 w _ _ _))
  have O1 := Lib.hid (And.intro (S1.al (sO b (.slice A4 b.args.length c4) (.slice A5 b.body.length c5) (.slice A6 b.els.length c6))) T2)
  have O2 := Lib.hid (And.intro T1 (S2.al (sO a (.slice A1 a.args.length c1) (.slice A2 a.body.length c2) (.slice A3 a.els.length c3))))
  have BB1 := Lib.hid (bal4 w (sO a (.slice A1 a.args.length c1) (.slice A2 a.body.length c2) (.slice A3 a.els.length c3)) (sO b (.slice A4 b.args.length c4) (.slice A5 b.body.length c5) (.slice A6 b.els.length c6)) (sO a (.slice A1 a.args.length c1) (.slice A2 a.body.length c2) (.slice A3 a.els.length c3)) (sO b (.slice A4 b.args.length c4) (.slice A5 b.body.length c5) (.slice A6 b.els.length c6)))
  have BB2 := Lib.hid (bal4 w (sO a (.slice A1 a.args.length c1) (.slice A2 a.body.length c2) (.slice A3 a.els.length c3)) (sO b (.slice A4 b.args.length c4) (.slice A5 b.body.length c5) (.slice A6 b.els.length c6)) (sO b (.slice A4 b.args.length c4) (.slice A5 b.body.length c5) (.slice A6 b.els.length c6)) (sO a (.slice A1 a.args.length c1) (.slice A2 a.body.length c2) (.slice A3 a.els.length c3)))
  clear S1 S2 T1 T2 HA1 HB1 HE1 HA2 HBB HE2
  cases h1 : rightL [a] with
  | false =>
    obtain ⟨z1, hz1, hp1⟩ := szI_not h1
    have F := Lib.hid (show sameSt a b = false by simp [sameSt, h1])
    have Z1 := Lib.hid hz1
    clear hz1 h1
    go_enter Tryd.func32, Tryd.ntmps32
    go_wp2_with fail
    go_region
    all_goals go_wp2_with fail
    · refine (size_top_calls [a] _ _ ?_).mono ?_
      · exact SIn.keep O1.out.1 (Nat.le_refl _) fun _ _ _ => rfl
      rintro e w2 ⟨rfl, hq⟩
      have HB2 := Lib.hid (show Below w.heap.size w w2 from after BB1.out ⟨hq.os, hq.tape, hq.output, hq.size, hq.block⟩)
      rw [Z1.out]
      clear hq
      go_wp2_with fail
      go_ret
      exact ⟨by rw [F.out]; rfl, HB2.out⟩
    · refine (size_top_calls [a] _ _ ?_).mono ?_
      · exact SIn.keep O2.out.1 (Nat.le_refl _) fun _ _ _ => rfl
      rintro e w2 ⟨rfl, hq⟩
      have HB2 := Lib.hid (show Below w.heap.size w w2 from after BB2.out ⟨hq.os, hq.tape, hq.output, hq.size, hq.block⟩)
      rw [Z1.out]
      clear hq
      go_wp2_with fail
      go_ret
      exact ⟨by rw [F.out]; rfl, HB2.out⟩
  | true =>
    obtain ⟨z1, hz1, hp1⟩ := szI_yes h1
    have Z1 := Lib.hid hz1
    clear hz1
    cases h2 : rightL [b] with
    | false =>
      obtain ⟨z2, hz2, hp2⟩ := szI_not h2
      have F := Lib.hid (show sameSt a b = false by simp [sameSt, h2])
      have Z2 := Lib.hid hz2
      clear hz2 h1 h2
      go_enter Tryd.func32, Tryd.ntmps32
      go_wp2_with fail
      go_region
      all_goals go_wp2_with fail
      · refine (size_top_calls [a] _ _ ?_).mono ?_
        · exact SIn.keep O1.out.1 (Nat.le_refl _) fun _ _ _ => rfl
        rintro e w2 ⟨rfl, hq⟩
        have HB2 := Lib.hid (show Below w.heap.size w w2 from after BB1.out ⟨hq.os, hq.tape, hq.output, hq.size, hq.block⟩)
        rw [Z1.out]
        have KX := Lib.hid (SIn.up O1.out.1 ⟨hq.os, hq.tape, hq.output, hq.size, hq.block⟩)
        have KY := Lib.hid (SIn.up O1.out.2 ⟨hq.os, hq.tape, hq.output, hq.size, hq.block⟩)
        clear hq
        go_wp2_with fail
        refine (size_top_calls [b] _ _ KY.out).mono ?_
        rintro e w3 ⟨rfl, hq⟩
        have HB3 := Lib.hid (after HB2.out hq)
        rw [Z2.out]
        clear hq
        go_wp2_with fail
        go_ret
        exact ⟨by rw [F.out]; rfl, HB3.out⟩
      · refine (size_top_calls [a] _ _ ?_).mono ?_
        · exact SIn.keep O2.out.1 (Nat.le_refl _) fun _ _ _ => rfl
        rintro e w2 ⟨rfl, hq⟩
        have HB2 := Lib.hid (show Below w.heap.size w w2 from after BB2.out ⟨hq.os, hq.tape, hq.output, hq.size, hq.block⟩)
        rw [Z1.out]
        have KX := Lib.hid (SIn.up O2.out.1 ⟨hq.os, hq.tape, hq.output, hq.size, hq.block⟩)
        have KY := Lib.hid (SIn.up O2.out.2 ⟨hq.os, hq.tape, hq.output, hq.size, hq.block⟩)
        clear hq
        go_wp2_with fail
        refine (size_top_calls [b] _ _ KY.out).mono ?_
        rintro e w3 ⟨rfl, hq⟩
        have HB3 := Lib.hid (after HB2.out hq)
        rw [Z2.out]
        clear hq
        go_wp2_with fail
        go_ret
        exact ⟨by rw [F.out]; rfl, HB3.out⟩
    | true =>
      obtain ⟨z2, hz2, hp2⟩ := szI_yes h2
      have F := Lib.hid (show sameSt a b = eqSl [a] [b] by simp [sameSt, h1, h2, eqSl, eqSt])
      have Z2 := Lib.hid hz2
      clear hz2 h1 h2
      go_enter Tryd.func32, Tryd.ntmps32
      go_wp2_with fail
      go_region
      all_goals go_wp2_with fail
      · refine (size_top_calls [a] _ _ ?_).mono ?_
        · exact SIn.keep O1.out.1 (Nat.le_refl _) fun _ _ _ => rfl
        rintro e w2 ⟨rfl, hq⟩
        have HB2 := Lib.hid (show Below w.heap.size w w2 from after BB1.out ⟨hq.os, hq.tape, hq.output, hq.size, hq.block⟩)
        rw [Z1.out]
        have KX := Lib.hid (SIn.up O1.out.1 ⟨hq.os, hq.tape, hq.output, hq.size, hq.block⟩)
        have KY := Lib.hid (SIn.up O1.out.2 ⟨hq.os, hq.tape, hq.output, hq.size, hq.block⟩)
        clear hq
        go_wp2_with fail
        refine (size_top_calls [b] _ _ KY.out).mono ?_
        rintro e w3 ⟨rfl, hq⟩
        have HB3 := Lib.hid (after HB2.out hq)
        rw [Z2.out]
        have KX := Lib.hid (KX.out.up hq)
        have KY := Lib.hid (KY.out.up hq)
        clear hq
        go_wp2_with fail
        refine (refStmts_calls [a] [b] _ _ _ KX.out KY.out).mono ?_
        rintro e w4 ⟨rfl, hq⟩
        have HB4 := Lib.hid (after HB3.out hq)
        clear hq
        go_wp2_with fail
        go_ret
        exact ⟨by rw [F.out]; rfl, HB4.out⟩
      · refine (size_top_calls [a] _ _ ?_).mono ?_
        · exact SIn.keep O2.out.1 (Nat.le_refl _) fun _ _ _ => rfl
        rintro e w2 ⟨rfl, hq⟩
        have HB2 := Lib.hid (show Below w.heap.size w w2 from after BB2.out ⟨hq.os, hq.tape, hq.output, hq.size, hq.block⟩)
        rw [Z1.out]
        have KX := Lib.hid (SIn.up O2.out.1 ⟨hq.os, hq.tape, hq.output, hq.size, hq.block⟩)
        have KY := Lib.hid (SIn.up O2.out.2 ⟨hq.os, hq.tape, hq.output, hq.size, hq.block⟩)
        clear hq
        go_wp2_with fail
        refine (size_top_calls [b] _ _ KY.out).mono ?_
        rintro e w3 ⟨rfl, hq⟩
        have HB3 := Lib.hid (after HB2.out hq)
        rw [Z2.out]
        have KX := Lib.hid (KX.out.up hq)
        have KY := Lib.hid (KY.out.up hq)
        clear hq
        go_wp2_with fail
        refine (refStmts_calls [a] [b] _ _ _ KX.out KY.out).mono ?_
        rintro e w4 ⟨rfl, hq⟩
        have HB4 := Lib.hid (after HB3.out hq)
        clear hq
        go_wp2_with fail
        go_ret
        exact ⟨by rw [F.out]; rfl, HB4.out⟩
end Go.Proofs.YthiilnhiihfknaaDoor

namespace Go.Proofs.YthiilnhiihfknaaDoor
open Go Go.RowKit

def CntZ (most : Int) (w : World) (e : Ending) (w' : World) : Prop := ∃ r : Nat, (most < 0 → r ≤ 1) ∧ (0 ≤ most → (r : Int) ≤ 4 * most + 8) ∧ e = .returned (.int .i64 r) ∧ Below w.heap.size w w'

set_option maxRecDepth 100000 in
set_option maxHeartbeats 20000000 in
theorem lawStmts_all (m : Nat) : ∀ l : List St, SizeOf.sizeOf l < m → ∀ (most : Int) (v : Value) (w : World), -10000 ≤ most → most ≤ 1000 → SIn w w.heap.size l v →
    Calls Tryd.prog 30 #[v, .int .i64 most] w (CntZ most w) := by
  induction m with
  | zero => intro l h; omega
  | succ m ih =>
    intro l hm most v w hmo1 hmo2 hE
    obtain ⟨A, c, rfl⟩ := hE.slice
    have hle := hE.le
    have HE := Lib.hid hE
    have IH := Lib.hid ih
    have HM := Lib.hid hm
    clear hE ih hm
    go_enter Tryd.func30, Tryd.ntmps30
    go_wp2_with fail
    go_loopw [5, 10] (fun d i wr => ∃ (n r : Nat), n ≤ l.length ∧ (r : Int) ≤ 4007 ∧ (0 ≤ most → (r : Int) ≤ 4 * most + 7) ∧ (most < 0 → r = 0) ∧ i = .int .i64 n ∧ d = .int .i64 r ∧ Below w.heap.size w wr) (fun _ i _ => l.length - (intOf i).toNat)
    case atStart => exact ⟨0, 0, by omega, by omega, by omega, by omega, rfl, rfl, Below.refl _ _⟩
    case round =>
      obtain ⟨n, r, hn, hr0, hr1, hr2, rfl, rfl, hbw⟩ := hrel
      have HW := Lib.hid hbw
      have HR1 := Lib.hid hr1
      have HR2 := Lib.hid hr2
      clear hbw hr1 hr2
      by_cases hlt : n < l.length
      · obtain ⟨b, o, va, vb, ve, hA, hbl, hoe, hc, s1, s2, s3⟩ := (HE.out.at_).2 n hlt
        obtain ⟨c0, c1, c2, c3, c4, c5, c6, c7⟩ := hc.keep (fun i => HW.out.cell (p := ⟨b, i, none⟩) hbl)
        obtain ⟨A1, d1, rfl⟩ := s1.slice
        obtain ⟨A2, d2, rfl⟩ := s2.slice
        obtain ⟨A3, d3, rfl⟩ := s3.slice
        have HS1 := Lib.hid (EIn.up s1 HW.out)
        have HS2 := Lib.hid (SIn.up s2 HW.out)
        have HS3 := Lib.hid (SIn.up s3 HW.out)
        have hz := HW.out.size
        subst hA
        clear s1 s2 s3 hc
        have hC2 := IH.out l[n].body (by have h1 := HM.out; have h2 := List.sizeOf_lt_of_mem (List.getElem_mem hlt); have h3 : SizeOf.sizeOf l[n].body < SizeOf.sizeOf l[n] := by { cases l[n]; simp; omega }; omega)
        have hC3 := IH.out l[n].els (by have h1 := HM.out; have h2 := List.sizeOf_lt_of_mem (List.getElem_mem hlt); have h3 : SizeOf.sizeOf l[n].els < SizeOf.sizeOf l[n] := by { cases l[n]; simp; omega }; omega)
        generalize l[n] = x at *
        have HC2 := Lib.hid hC2
        have HC3 := Lib.hid hC3
        have HX := Lib.hid (SBox.new wr x (.slice A1 x.args.length d1) (.slice A2 x.body.length d2) (.slice A3 x.els.length d3))
        clear hC2 hC3
        by_cases hg : most < (r : Int) + 1
        · go_wp2_with fail
          go_ret
          exact ⟨r + 1, fun h => by have := HR2.out h; omega, fun h => by have := HR1.out h; omega, by go_num, (HW.out.alloc hz _)⟩
        · obtain ⟨k, hk⟩ : ∃ k : Nat, (k : Int) = most - ((r : Int) + 1) := ⟨(most - ((r : Int) + 1)).toNat, by omega⟩
          have hsb : (most - ((r : Int) + 1)) = (k : Int) := hk.symm
          clear hk
          have HK := Lib.hid hsb
          go_wp2_with fail
          refine (lawExprs_all _ x.args (Nat.lt_succ_self _) k _ _ (by omega) (HS1.out.al _)).mono ?_
          rintro e w1 ⟨r1, hq1, rfl, hb⟩
          clear hsb
          have HB1 := Lib.hid (after (bal wr _) hb)
          have hz1 : wr.heap.size + 1 ≤ w1.heap.size := by have := hb.size; rw [sz1] at this; exact this
          have X1 := HX.out.keep hb (by simp)
          have HX1 := Lib.hid X1
          obtain ⟨x0, x1, x2, x3, x4, x5, x6, x7⟩ := X1
          clear hb
          have hq2 : (r1 : Int) ≤ 2001 := by have := HK.out; omega
          go_wp2_with fail
          refine (HC2.out _ _ _ (by omega) (by omega) (HS2.out.up HB1.out)).mono ?_
          rintro e w2 ⟨r2, hp1, hp2, rfl, hb⟩
          have HB2 := Lib.hid (after HB1.out hb)
          have HP1 := Lib.hid hp1
          have HP2 := Lib.hid hp2
          have X2 := HX1.out.keep (M := wr.heap.size + 1) (hb.mono hz1) (by simp)
          clear x0 x1 x2 x3 x4 x5 x6 x7 hp1 hp2
          obtain ⟨x0, x1, x2, x3, x4, x5, x6, x7⟩ := X2
          have hz2 := HB2.out.size
          clear hb
          have hq3 : (r2 : Int) ≤ 4008 := by have := HP1.out; have := HP2.out; omega
          go_wp2_with fail
          refine (HC3.out _ _ _ (by omega) (by omega) (HS3.out.up HB2.out)).mono ?_
          rintro e w3 ⟨r3, hp3, hp4, rfl, hb⟩
          have HB3 := Lib.hid (HW.out.trans ((after HB2.out hb).mono hz))
          have HP3 := Lib.hid hp3
          have HP4 := Lib.hid hp4
          have hq4 : (r3 : Int) ≤ 4008 := by have := HP3.out; have := HP4.out; omega
          clear hb hp3 hp4
          have hsum : (((r + 1 + r1 + r2 + r3 : Nat) : Int) ≤ 4 * most + 7) := by have h1 := HP1.out; have h2 := HP2.out; have h3 := HP3.out; have h4 := HP4.out; have h5 := HK.out; omega
          have HSUM := Lib.hid hsum
          clear hsum
          go_wp2_with fail
          go_roundw
          case rel => exact ⟨n + 1, r + 1 + r1 + r2 + r3, by omega, by have := HSUM.out; omega, fun _ => HSUM.out, fun h => by omega, by go_num, by go_num, HB3.out⟩
          case measure => simp [intOf]; omega
      · have he : n = l.length := by omega
        subst he
        go_wp2_with fail
        go_ret
        exact ⟨r, fun h => by have := HR2.out h; omega, fun h => by have := HR1.out h; omega, rfl, HW.out⟩
end Go.Proofs.YthiilnhiihfknaaDoor

namespace Go.Proofs.YthiilnhiihfknaaDoor
open Go Go.RowKit Go.Sort

set_option maxRecDepth 100000 in
set_option maxHeartbeats 20000000 in
theorem shapeStmts_calls (a b : St) (ha : OkS a) (hb : OkS b) (va vb ve ua ub ue : Value) (w : World) (hA1 : EIn w w.heap.size a.args va) (hB1 : SIn w w.heap.size a.body vb) (hE1 : SIn w w.heap.size a.els ve) (hA2 : EIn w w.heap.size b.args ua) (hB2 : SIn w w.heap.size b.body ub) (hE2 : SIn w w.heap.size b.els ue) (hG : Glob w) :
    Calls Tryd.prog 5 #[sV a va vb ve, sV b ua ub ue] w fun e w' => e = .returned (.bool true) ∧ Below w.heap.size w w' := by
  obtain ⟨A1, n1, rfl⟩ := hA1.slice
  obtain ⟨A2, n2, rfl⟩ := hB1.slice
  obtain ⟨A3, n3, rfl⟩ := hE1.slice
  obtain ⟨A4, n4, rfl⟩ := hA2.slice
  obtain ⟨A5, n5, rfl⟩ := hB2.slice
  obtain ⟨A6, n6, rfl⟩ := hE2.slice
  have bb := bal2 w (sO a (.slice A1 a.args.length n1) (.slice A2 a.body.length n2) (.slice A3 a.els.length n3)) (sO b (.slice A4 b.args.length n4) (.slice A5 b.body.length n5) (.slice A6 b.els.length n6))
  have HG := Lib.hid (hG.up bb)
  have HA1 := Lib.hid (hA1.up bb)
  have HB1 := Lib.hid (hB1.up bb)
  have HE1 := Lib.hid (hE1.up bb)
  have HA2 := Lib.hid (hA2.up bb)
  have HBB := Lib.hid (hB2.up bb)
  have HE2 := Lib.hid (hE2.up bb)
  have HW := Lib.hid bb
  have XA := Lib.hid ((SBox.new w a (.slice A1 a.args.length n1) (.slice A2 a.body.length n2) (.slice A3 a.els.length n3)).keep (bal (w.alloc (sO a (.slice A1 a.args.length n1) (.slice A2 a.body.length n2) (.slice A3 a.els.length n3))) (sO b (.slice A4 b.args.length n4) (.slice A5 b.body.length n5) (.slice A6 b.els.length n6))) (by simp))
  have XB := Lib.hid (SBox.new (w.alloc (sO a (.slice A1 a.args.length n1) (.slice A2 a.body.length n2) (.slice A3 a.els.length n3))) b (.slice A4 b.args.length n4) (.slice A5 b.body.length n5) (.slice A6 b.els.length n6))
  have hsz : ((w.alloc (sO a (.slice A1 a.args.length n1) (.slice A2 a.body.length n2) (.slice A3 a.els.length n3))).alloc (sO b (.slice A4 b.args.length n4) (.slice A5 b.body.length n5) (.slice A6 b.els.length n6))).heap.size = w.heap.size + 2 := by rw [sz1, sz1]
  rw [sz1] at XB
  clear hA1 hB1 hE1 hA2 hB2 hE2 hG bb
  go_enter Tryd.func5, Tryd.ntmps5
  obtain ⟨a0, a1, a2, a3, a4, a5, a6, a7⟩ := XA.out
  obtain ⟨b0, b1, b2, b3, b4, b5, b6, b7⟩ := XB.out
  go_wp2_with fail
  generalize ((w.alloc (sO a (.slice A1 a.args.length n1) (.slice A2 a.body.length n2) (.slice A3 a.els.length n3))).alloc (sO b (.slice A4 b.args.length n4) (.slice A5 b.body.length n5) (.slice A6 b.els.length n6))) = H at *
  refine (lawStmts_all _ [a] (Nat.lt_succ_self _) 500 _ _ (by omega) (by omega) (SIn.fresh (by rw [hsz]) ha HA1.out HB1.out HE1.out)).mono ?_
  rintro e H1 ⟨r1, _, hr1, rfl, hb1⟩
  have hr1 := hr1 (by omega)
  have HH := Lib.hid (after (bal H _) hb1)
  clear hb1 a0 a1 a2 a3 a4 a5 a6 a7 b0 b1 b2 b3 b4 b5 b6 b7
  have hz1 := HH.out.size
  by_cases h1 : (500 : Int) < (r1 : Int)
  · go_wp2_with fail
    refine (works_calls _ (HG.out.up HH.out)).mono ?_
    rintro e w1 ⟨rfl, hb1⟩
    have HZ := Lib.hid (after HW.out (after HH.out hb1))
    clear hb1
    go_wp2_with fail
    exact bodyPost_ret (v := .bool true) (by simp [results, Tryd.results5, go_sem]) rfl ⟨rfl, HZ.out⟩
  · obtain ⟨b0, b1, b2, b3, b4, b5, b6, b7⟩ := XB.out.keep HH.out (by omega)
    go_wp2_with fail
    refine (lawStmts_all _ [b] (Nat.lt_succ_self _) 500 _ _ (by omega) (by omega) (SIn.fresh rfl hb (HA2.out.up HH.out) (HBB.out.up HH.out) (HE2.out.up HH.out))).mono ?_
    rintro e H2 ⟨r2, _, hr2, rfl, hb1⟩
    have hr2 := hr2 (by omega)
    have HH := Lib.hid (after HH.out (after (bal H1 _) hb1))
    clear hb1 b0 b1 b2 b3 b4 b5 b6 b7
    have hz2 := HH.out.size
    have HW := Lib.hid (after HW.out HH.out)
    have HG := Lib.hid (HG.out.up HH.out)
    by_cases h2 : (500 : Int) < (r2 : Int)
    · go_wp2_with fail
      refine (works_calls _ HG.out).mono ?_
      rintro e w1 ⟨rfl, hb1⟩
      have HZ := Lib.hid (after HW.out hb1)
      clear hb1
      go_wp2_with fail
      exact bodyPost_ret (v := .bool true) (by simp [results, Tryd.results5, go_sem]) rfl ⟨rfl, HZ.out⟩
    · have HA1 := Lib.hid (HA1.out.up HH.out)
      have HB1 := Lib.hid (HB1.out.up HH.out)
      have HE1 := Lib.hid (HE1.out.up HH.out)
      have HA2 := Lib.hid (HA2.out.up HH.out)
      have HBB := Lib.hid (HBB.out.up HH.out)
      have HE2 := Lib.hid (HE2.out.up HH.out)
      obtain ⟨a0, a1, a2, a3, a4, a5, a6, a7⟩ := XA.out.keep HH.out (by omega)
      obtain ⟨b0, b1, b2, b3, b4, b5, b6, b7⟩ := XB.out.keep HH.out (by omega)
      have qa0 := fun d os => cell_regrown a0 d os
      have qa1 := fun d os => cell_regrown a1 d os
      have qa2 := fun d os => cell_regrown a2 d os
      have qa3 := fun d os => cell_regrown a3 d os
      have qa4 := fun d os => cell_regrown a4 d os
      have qa5 := fun d os => cell_regrown a5 d os
      have qa6 := fun d os => cell_regrown a6 d os
      have qa7 := fun d os => cell_regrown a7 d os
      have qb0 := fun d os => cell_regrown b0 d os
      have qb1 := fun d os => cell_regrown b1 d os
      have qb2 := fun d os => cell_regrown b2 d os
      have qb3 := fun d os => cell_regrown b3 d os
      have qb4 := fun d os => cell_regrown b4 d os
      have qb5 := fun d os => cell_regrown b5 d os
      have qb6 := fun d os => cell_regrown b6 d os
      have qb7 := fun d os => cell_regrown b7 d os
      clear a0 a1 a2 a3 a4 a5 a6 a7 b0 b1 b2 b3 b4 b5 b6 b7
      have gG := fun d os => HG.out.up (below_regrown H2 d os)
      have gA1 := fun d os => HA1.out.up (below_regrown H2 d os)
      have gB1 := fun d os => HB1.out.up (below_regrown H2 d os)
      have gE1 := fun d os => HE1.out.up (below_regrown H2 d os)
      have gA2 := fun d os => HA2.out.up (below_regrown H2 d os)
      have gB2 := fun d os => HBB.out.up (below_regrown H2 d os)
      have gE2 := fun d os => HE2.out.up (below_regrown H2 d os)
      have c1 := fun d os => Calls.regrown_of (d := d) (os := os) (sameStmt_calls a b ha hb _ _ _ _ _ _ (grow (redrawn H2 d) os) (gA1 d os) (gB1 d os) (gE1 d os) (gA2 d os) (gB2 d os) (gE2 d os) (gG d os))
      have c2 := fun d os => Calls.regrown_of (d := d) (os := os) (refSameStmt_calls a b ha hb _ _ _ _ _ _ (grow (redrawn H2 d) os) (gA1 d os) (gB1 d os) (gE1 d os) (gA2 d os) (gB2 d os) (gE2 d os))
      have c3 := fun d os => Calls.regrown_of (d := d) (os := os) (sameStmt_calls a a ha ha _ _ _ _ _ _ (grow (redrawn H2 d) os) (gA1 d os) (gB1 d os) (gE1 d os) (gA1 d os) (gB1 d os) (gE1 d os) (gG d os))
      have c4 := fun d os => Calls.regrown_of (d := d) (os := os) (refSameStmt_calls a a ha ha _ _ _ _ _ _ (grow (redrawn H2 d) os) (gA1 d os) (gB1 d os) (gE1 d os) (gA1 d os) (gB1 d os) (gE1 d os))
      have c9 := fun d os => Calls.regrown_of (d := d) (os := os) (works_calls (grow (redrawn H2 d) os) (gG d os))
      have g1 : (sameSt a b == sameSt a b) = true := by simp
      have g2 : (sameSt a a == sameSt a a) = true := by simp
      generalize sameSt a b = z1 at *
      generalize sameSt a a = z2 at *
      clear gG gA1 gB1 gE1 gA2 gB2 gE2
      have HC1 := Lib.hid c1
      have HC2 := Lib.hid c2
      have HC3 := Lib.hid c3
      have HC4 := Lib.hid c4
      have HC9 := Lib.hid c9
      clear c1 c2 c3 c4 c9
      go_wp2_with fail
      refine wp_region_quiet_below (by kernel_rfl) (by kernel_rfl) ?_
      repeat (first | go_big_quiet_step (first | with_reducible exact HC1.out _ _ | with_reducible exact HC2.out _ _ | with_reducible exact HC3.out _ _ | with_reducible exact HC4.out _ _ | with_reducible exact HC9.out _ _) | quiet_step (first | with_reducible exact HC1.out _ _ | with_reducible exact HC2.out _ _ | with_reducible exact HC3.out _ _ | with_reducible exact HC4.out _ _ | with_reducible exact HC9.out _ _))
      refine wpQuiet_nil ?_
      intro _ hw'
      obtain ⟨⟨dq, osq⟩, hw''⟩ := hw'
      subst hw''
      have HZ := Lib.hid (after HW.out (below_regrown H2 dq osq))
      go_wp2_with fail
      exact bodyPost_ret (v := .bool true) (by simp [results, Tryd.results5, go_sem]) rfl ⟨rfl, HZ.out⟩
end Go.Proofs.YthiilnhiihfknaaDoor
