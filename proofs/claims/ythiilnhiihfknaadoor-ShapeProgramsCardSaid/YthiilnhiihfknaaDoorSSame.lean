/-
  SameStmt; the law's num, name, binary: contracts.
-/
import Derived.Test.YthiilnhiihfknaaDoorSEqS
import Derived.Test.YthiilnhiihfknaaDoorSCheck
import Derived.Test.YthiilnhiihfknaaDoorSRefDepth
namespace Go.Proofs.YthiilnhiihfknaaDoor
open Go Go.RowKit

noncomputable def sameSt (a b : St) : Bool := rightL [a] && rightL [b] && eqSt a b
theorem SIn.one {w : World} {M b c : Nat} {s : St} {va vb ve : Value} (hb : b < M) (ho : OkS s) (h : SBox w b s va vb ve) (ha : EIn w M s.args va) (hbo : SIn w M s.body vb) (he : SIn w M s.els ve) : SIn w M [s] (.slice (some ⟨b, 0, none⟩) 1 c) := by
  obtain ⟨c0, c1, c2, c3, c4, c5, c6, c7⟩ := h
  refine .mk [s] (some ⟨b, 0, none⟩) c (fun _ => va) (fun _ => vb) (fun _ => ve) (by simp) (fun i x hx => ?_) (fun i x hx => ?_) (fun i x hx => ?_) (fun i x hx => ?_)
  all_goals
    cases i with
    | succ i => simp at hx
    | zero =>
      simp at hx
      subst hx
      first | exact ⟨b, 0, rfl, hb, ho, ⟨c0, c1, c2, c3, c4, c5, c6, c7⟩⟩ | exact ha | exact hbo | exact he
/-- A statement on its own in a new block. -/
theorem SIn.fresh {w : World} {g : Nat} {s : St} {va vb ve : Value} {c : Nat} (hg : g = w.heap.size) (ho : OkS s) (ha : EIn w w.heap.size s.args va) (hbo : SIn w w.heap.size s.body vb) (he : SIn w w.heap.size s.els ve) : SIn (w.alloc (sO s va vb ve)) (w.alloc (sO s va vb ve)).heap.size [s] (.slice (some ⟨g, 0, none⟩) 1 c) := by
  subst hg
  exact SIn.one (by simp) ho (SBox.new w s va vb ve) (ha.al _) (hbo.al _) (he.al _)

set_option maxRecDepth 100000 in
set_option maxHeartbeats 2000000 in
theorem sameStmt_calls (a b : St) (ha : OkS a) (hb : OkS b) (va vb ve ua ub ue : Value) (w : World) (hA1 : EIn w w.heap.size a.args va) (hB1 : SIn w w.heap.size a.body vb) (hE1 : SIn w w.heap.size a.els ve) (hA2 : EIn w w.heap.size b.args ua) (hB2 : SIn w w.heap.size b.body ub) (hE2 : SIn w w.heap.size b.els ue) (hG : Glob w) :
    Calls Tryd.prog 31 #[sV a va vb ve, sV b ua ub ue] w fun r w' => r = .returned (.bool (sameSt a b)) ∧ Below w.heap.size w w' := by
  obtain ⟨A1, c1, rfl⟩ := hA1.slice
  obtain ⟨A2, c2, rfl⟩ := hB1.slice
  obtain ⟨A3, c3, rfl⟩ := hE1.slice
  obtain ⟨A4, c4, rfl⟩ := hA2.slice
  obtain ⟨A5, c5, rfl⟩ := hB2.slice
  obtain ⟨A6, c6, rfl⟩ := hE2.slice
  have HA1 := Lib.hid hA1
  have HB1 := Lib.hid hB1
  have HE1 := Lib.hid hE1
  have HA2 := Lib.hid hA2
  have HBB := Lib.hid hB2
  have HE2 := Lib.hid hE2
  have HG := Lib.hid hG
  have HX1 := Lib.hid ((SBox.new w a (.slice A1 a.args.length c1) (.slice A2 a.body.length c2) (.slice A3 a.els.length c3)).keep (bal _ (sO b (.slice A4 b.args.length c4) (.slice A5 b.body.length c5) (.slice A6 b.els.length c6))) (by simp))
  have HX2 := Lib.hid (SBox.new (w.alloc (sO a (.slice A1 a.args.length c1) (.slice A2 a.body.length c2) (.slice A3 a.els.length c3))) b (.slice A4 b.args.length c4) (.slice A5 b.body.length c5) (.slice A6 b.els.length c6))
  clear hA1 hB1 hE1 hA2 hB2 hE2 hG
  cases h1 : rightL [a] with
  | false =>
    have H1 := Lib.hid h1
    have F := Lib.hid (show sameSt a b = false by simp [sameSt, h1])
    clear h1
    go_enter Tryd.func31, Tryd.ntmps31
    go_wp2_with fail
    refine (rightStmts_calls [a] _ _ ?_ ?_).mono ?_
    · exact SIn.fresh (by simp) ha (HA1.out.up (bal2 _ _ _)) (HB1.out.up (bal2 _ _ _)) (HE1.out.up (bal2 _ _ _))
    · exact HG.out.up (bal3 _ _ _ _)
    rintro e w2 ⟨rfl, hb⟩
    have HB2 := Lib.hid (after (bal3 _ _ _ _) hb)
    clear hb
    rw [H1.out]
    go_wp2_with fail
    go_ret
    exact ⟨by rw [F.out]; rfl, HB2.out⟩
  | true =>
    have H1 := Lib.hid h1
    clear h1
    cases h2 : rightL [b] with
    | false =>
      have H2 := Lib.hid h2
      have F := Lib.hid (show sameSt a b = false by simp [sameSt, h2])
      clear h2
      go_enter Tryd.func31, Tryd.ntmps31
      go_wp2_with fail
      refine (rightStmts_calls [a] _ _ ?_ ?_).mono ?_
      · exact SIn.fresh (by simp) ha (HA1.out.up (bal2 _ _ _)) (HB1.out.up (bal2 _ _ _)) (HE1.out.up (bal2 _ _ _))
      · exact HG.out.up (bal3 _ _ _ _)
      rintro e w2 ⟨rfl, hb'⟩
      have HB2 := Lib.hid (after (bal3 _ _ _ _) hb')
      have X2 := (HX2.out.keep (bal _ _) (by simp)).keep hb' (by simp)
      rw [sz1] at X2
      obtain ⟨r0, r1, r2, r3, r4, r5, r6, r7⟩ := X2
      clear hb'
      rw [H1.out]
      go_wp2_with fail
      refine (rightStmts_calls [b] _ _ ?_ ?_).mono ?_
      · exact SIn.fresh (by simp) hb (HA2.out.up HB2.out) (HBB.out.up HB2.out) (HE2.out.up HB2.out)
      · exact (HG.out.up HB2.out).al _
      rintro e w3 ⟨rfl, hb'⟩
      have HB3 := Lib.hid (after (HB2.out.alloc HB2.out.size _) hb')
      clear hb'
      rw [H2.out]
      go_wp2_with fail
      go_ret
      exact ⟨by rw [F.out]; rfl, HB3.out⟩
    | true =>
      have H2 := Lib.hid h2
      have F := Lib.hid (show sameSt a b = eqSt a b by simp [sameSt, H1.out, h2])
      clear h2
      go_enter Tryd.func31, Tryd.ntmps31
      go_wp2_with fail
      refine (rightStmts_calls [a] _ _ ?_ ?_).mono ?_
      · exact SIn.fresh (by simp) ha (HA1.out.up (bal2 _ _ _)) (HB1.out.up (bal2 _ _ _)) (HE1.out.up (bal2 _ _ _))
      · exact HG.out.up (bal3 _ _ _ _)
      rintro e w2 ⟨rfl, hb'⟩
      have HB2 := Lib.hid (after (bal3 _ _ _ _) hb')
      have X1 := (HX1.out.keep (bal _ _) (by simp; omega)).keep hb' (by simp; omega)
      have X2 := (HX2.out.keep (bal _ _) (by simp)).keep hb' (by simp)
      rw [sz1] at X2
      have hz2 : w.heap.size + 3 ≤ w2.heap.size := by have := hb'.size; simpa using this
      have HX1 := Lib.hid X1
      have HX2 := Lib.hid X2
      obtain ⟨r0, r1, r2, r3, r4, r5, r6, r7⟩ := X2
      clear hb' X1
      rw [H1.out]
      go_wp2_with fail
      refine (rightStmts_calls [b] _ _ ?_ ?_).mono ?_
      · exact SIn.fresh (by simp) hb (HA2.out.up HB2.out) (HBB.out.up HB2.out) (HE2.out.up HB2.out)
      · exact (HG.out.up HB2.out).al _
      rintro e w3 ⟨rfl, hb'⟩
      have HB3 := Lib.hid (after (HB2.out.alloc HB2.out.size _) hb')
      obtain ⟨p0, p1, p2, p3, p4, p5, p6, p7⟩ := (HX1.out.keep (bal _ _) (by omega)).keep hb' (by simp; omega)
      obtain ⟨s0, s1, s2, s3, s4, s5, s6, s7⟩ := (HX2.out.keep (bal _ _) (by omega)).keep hb' (by simp; omega)
      clear hb' r0 r1 r2 r3 r4 r5 r6 r7
      rw [H2.out]
      go_wp2_with fail
      refine (equalStmts_calls a b _ _ _ _ _ _ _ ha hb (HA1.out.up HB3.out) (HB1.out.up HB3.out) (HE1.out.up HB3.out) (HA2.out.up HB3.out) (HBB.out.up HB3.out) (HE2.out.up HB3.out)).mono ?_
      rintro e w4 ⟨rfl, hb'⟩
      have HB4 := Lib.hid (after HB3.out hb')
      clear hb'
      go_wp2_with fail
      go_ret
      exact ⟨by rw [F.out]; rfl, HB4.out⟩

/-! ### the law's own functions -/
theorem num_calls (n : Int) (w : World) : Calls Tryd.prog 37 #[.int .i64 n] w fun e w' => e = .returned (eV ⟨1, 0, n, [], []⟩ (.slice none 0 0)) ∧ Below w.heap.size w w' := by
  go_enter Tryd.func37, Tryd.ntmps37
  go_wp2_with fail
  exact bodyPost_ret (v := eV ⟨1, 0, n, [], []⟩ (.slice none 0 0)) (by simp [results, Tryd.results37, go_sem]) rfl ⟨rfl, bal _ _⟩
theorem name_fn_calls (s : Bytes) (w : World) : Calls Tryd.prog 40 #[.string (B s)] w fun e w' => e = .returned (eV ⟨3, 0, 0, s, []⟩ (.slice none 0 0)) ∧ Below w.heap.size w w' := by
  go_enter Tryd.func40, Tryd.ntmps40
  go_wp2_with fail
  exact bodyPost_ret (v := eV ⟨3, 0, 0, s, []⟩ (.slice none 0 0)) (by simp [results, Tryd.results40, go_sem]) rfl ⟨rfl, bal _ _⟩
/-- Two expressions in a new row. -/
theorem EIn.two {w : World} {a b : Ex} {va vb : Value} {c : Nat} (ha : OkE a) (hb : OkE b) (h1 : EIn w w.heap.size a.args va) (h2 : EIn w w.heap.size b.args vb) (T : TypeId) (ws : List Value) (hw : ws = eC a va ++ eC b vb) :
    EIn (w.alloc (.cells ws.toArray T)) (w.alloc (.cells ws.toArray T)).heap.size [a, b] (.slice (some ⟨w.heap.size, 0, none⟩) 2 c) := by
  subst hw
  have k := fun (i : Nat) (u : Value) (h : (eC a va ++ eC b vb)[i]? = some u) => newCell w (eC a va ++ eC b vb).toArray T i u (by rw [List.getElem?_toArray]; exact h)
  refine .mk [a, b] (some ⟨w.heap.size, 0, none⟩) c (fun i => if i = 0 then va else vb) (by simp) (fun i e he => ?_) (fun i e he => ?_)
  · match i, he with
    | 0, he => cases he; exact ⟨_, 0, rfl, by simp, ha, ⟨k 0 _ rfl, k 1 _ rfl, k 2 _ rfl, k 3 _ rfl, k 4 _ rfl⟩⟩
    | 1, he => cases he; exact ⟨_, 0, rfl, by simp, hb, ⟨k 5 _ rfl, k 6 _ rfl, k 7 _ rfl, k 8 _ rfl, k 9 _ rfl⟩⟩
    | i + 2, he => simp at he
  · match i, he with
    | 0, he => cases he; exact h1.al _
    | 1, he => cases he; exact h2.al _
    | i + 2, he => simp at he
def BinR (op : Int) (a b : Ex) (w : World) (e : Ending) (w' : World) : Prop := ∃ v, e = .returned (eV ⟨5, op, 0, [], [a, b]⟩ v) ∧ Below w.heap.size w w' ∧ EIn w' w'.heap.size [a, b] v
set_option maxHeartbeats 1000000 in
theorem binary_calls (op : Int) (a b : Ex) (ha : OkE a) (hb : OkE b) (va vb : Value) (w : World) (h1 : EIn w w.heap.size a.args va) (h2 : EIn w w.heap.size b.args vb) :
    Calls Tryd.prog 39 #[.int .i64 op, eV a va, eV b vb] w (BinR op a b w) := by
  obtain ⟨A1, c1, rfl⟩ := h1.slice
  obtain ⟨A2, c2, rfl⟩ := h2.slice
  have H1 := Lib.hid h1
  have H2 := Lib.hid h2
  clear h1 h2
  go_enter Tryd.func39, Tryd.ntmps39
  go_wp2_with fail
  have hb2 := bal3 w (eO a (.slice A1 a.args.length c1)) (eO b (.slice A2 b.args.length c2)) (.cells #[.int .i64 5, .int .i64 op, .int .i64 0, .string ⟨#[]⟩, .slice (some ⟨w.heap.size + 1 + 1 + 1, 0, none⟩) 2 2] 24)
  refine bodyPost_ret (v := eV ⟨5, op, 0, [], [a, b]⟩ (.slice (some ⟨w.heap.size + 1 + 1 + 1, 0, none⟩) 2 2)) (by simp [results, Tryd.results39, go_sem]) rfl ⟨_, rfl, hb2.alloc hb2.size _, ?_⟩
  have := EIn.two (c := 2) ha hb (H1.out.up hb2) (H2.out.up hb2) 24 _ rfl
  rwa [show (((w.alloc (eO a (.slice A1 a.args.length c1))).alloc (eO b (.slice A2 b.args.length c2))).alloc (.cells #[.int .i64 5, .int .i64 op, .int .i64 0, .string ⟨#[]⟩, .slice (some ⟨w.heap.size + 1 + 1 + 1, 0, none⟩) 2 2] 24)).heap.size = w.heap.size + 1 + 1 + 1 by simp] at this
end Go.Proofs.YthiilnhiihfknaaDoor
