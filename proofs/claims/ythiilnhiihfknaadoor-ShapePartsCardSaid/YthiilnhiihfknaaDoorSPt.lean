/-
  ShapeParts: look and walk: contracts.
  ShapeParts: walk: contract.
  ShapeParts: the law's walk.
-/
import Derived.Test.YthiilnhiihfknaaDoorSSrcF
import Derived.Test.YthiilnhiihfknaaDoorSWorks
namespace Go.Proofs.YthiilnhiihfknaaDoor
open Go Go.RowKit

/-! ### plain laws -/
theorem deps_congr {f g : Ex → Nat} {l : List Ex} (h : ∀ e ∈ l, f e = g e) : deps f l = deps g l := by
  have key : ∀ (l : List Ex) (a : Nat), (∀ e ∈ l, f e = g e) → List.foldlM (fun d e => if f e = 0 then none else some (max d (f e))) a l = List.foldlM (fun d e => if g e = 0 then none else some (max d (g e))) a l := by
    intro l
    induction l with
    | nil => intro a _; rfl
    | cons e l ih =>
      intro a h
      rw [List.foldlM_cons, List.foldlM_cons, h e (by simp)]
      split
      · rfl
      · simp only [Option.bind_eq_bind, Option.bind_some]
        exact ih _ fun x hx => h x (by simp [hx])
  exact key l 0 h
theorem dep_up (k : Nat) : ∀ e, dep k e ≠ 0 → dep (k + 1) e = dep k e := by
  induction k with
  | zero => intro e h; exact absurd rfl h
  | succ k ih =>
    intro e h
    obtain ⟨hf, ha⟩ := dep_args h
    rw [dep, dep, if_pos hf, if_pos hf, deps_congr fun a hx => ih a (ha a hx)]
theorem dep_20 {k : Nat} {e : Ex} (h : dep k e ≠ 0) : ∀ j, dep (k + j) e = dep k e := by
  intro j
  induction j with
  | zero => rfl
  | succ j ih => rw [← Nat.add_assoc, dep_up _ _ (by rw [ih]; exact h), ih]
theorem dep_at20 {k : Nat} {e : Ex} (h : dep k e ≠ 0) (hk : k ≤ 20) : dep 20 e = dep k e := by
  have := dep_20 h (20 - k)
  rwa [show k + (20 - k) = 20 by omega] at this
theorem sameE_self {e : Ex} (h : exB e = true) : sameE e e = true := by simp [sameE, h, eqE]

abbrev lookF (lk ok : Nat) : Value := .func (.func 35) #[] #[.pointer (some ⟨lk, 0, none⟩), .pointer (some ⟨ok, 0, none⟩)]
abbrev walkF (lk ok wk : Nat) : Value := .func (.func 36) #[] #[.pointer (some ⟨lk, 0, none⟩), .pointer (some ⟨ok, 0, none⟩), .pointer (some ⟨wk, 0, none⟩)]
theorem max_int (a b : Nat) : Value.int .i64 (if (a : Int) < b then (b : Int) else a) = .int .i64 ((max a b : Nat) : Int) := by
  congr 1
  split <;> omega
set_option maxHeartbeats 4000000 in
theorem look_calls (lk ok : Nat) (k : Nat) : ∀ (e : Ex) (v : Value) (w : World), k ≤ 20 → dep k e ≠ 0 → OkE e → EIn w w.heap.size e.args v → Glob w → w.cell? ⟨lk, 0, none⟩ = some (lookF lk ok) →
    Calls Tryd.prog 35 #[eV e v, .pointer (some ⟨lk, 0, none⟩), .pointer (some ⟨ok, 0, none⟩)] w fun x w' => x = .returned (.int .i64 (dep k e : Nat)) ∧ Below w.heap.size w w' := by
  induction k with
  | zero => intro e v w _ h; exact absurd rfl h
  | succ k ih =>
    intro e v w hk hd ho hE hG hcell
    have IH := Lib.hid ih
    have H20 := Lib.hid (dep_at20 hd hk)
    have HXB := Lib.hid (show exB e = true by have := dep_at20 hd hk; simp [exB, this, hd])
    obtain ⟨hf, hargs⟩ := dep_args hd
    have HARG := Lib.hid hargs
    have HDE := Lib.hid (show dep (k + 1) e = depOf (deps (dep k) e.args) by rw [dep, if_pos hf])
    have hle := dep_le (k + 1) e
    have HLE := Lib.hid hle
    obtain ⟨A, c, rfl⟩ := hE.slice
    have hlen := hE.le
    have HE := Lib.hid hE
    have HG := Lib.hid hG
    have HO := Lib.hid ho
    have hlk := World.block_lt_of_cell? _ _ hcell
    have HC := Lib.hid hcell
    have HB0 := Lib.hid (bal w (eO e (.slice A e.args.length c)))
    have HX0 := Lib.hid (EBox.new w e (.slice A e.args.length c))
    clear ih hd hf hargs hE hG ho hcell hle
    go_enter Tryd.func35, Tryd.ntmps35
    go_wp2_with fail
    have hw0 : (w.alloc (eO e (.slice A e.args.length c))).heap.size = w.heap.size + 1 := sz1 _ _
    have HW0 := Lib.hid hw0
    clear hw0
    generalize (w.alloc (eO e (.slice A e.args.length c))) = w0 at *
    go_loopw [5, 11] (fun d i wr => ∃ n dd : Nat, n ≤ e.args.length ∧ i = .int .i64 n ∧ d = .int .i64 dd ∧ Hid (deps (dep k) (e.args.take n) = some dd) ∧ Hid (Below w0.heap.size w0 wr)) (fun _ i _ => e.args.length - (intOf i).toNat)
    case atStart => exact ⟨0, 0, by omega, rfl, rfl, Lib.hid rfl, Lib.hid (Below.refl _ _)⟩
    case round =>
      obtain ⟨n, dd, hn, rfl, rfl, HD, HW⟩ := hrel
      have hz := HW.out.size
      have hzw : w.heap.size < wr.heap.size := by have := HW0.out; omega
      by_cases hlt : n < e.args.length
      · obtain ⟨b, o, v1, hA, hbl, hoe, hc, hE1⟩ := HE.out.at_.2 n hlt
        obtain ⟨a0, a1, a2, a3, a4⟩ := (hc.keep (fun q => HB0.out.cell (p := ⟨b, q, none⟩) hbl)).keep (fun q => HW.out.cell (p := ⟨b, q, none⟩) (by have := HW0.out; show b < _; omega))
        obtain ⟨A1, c1, rfl⟩ := hE1.slice
        have hBW := Lib.hid (show Below w.heap.size w wr from HB0.out.trans (HW.out.mono (by have := HW0.out; omega)))
        have HE1 := Lib.hid (EIn.up hE1 hBW.out)
        have hck := (hBW.out.cell (p := ⟨lk, 0, none⟩) hlk).trans HC.out
        have hnz := HARG.out _ (List.getElem_mem hlt)
        have HSN := Lib.hid (show deps (dep k) (e.args.take (n + 1)) = some (max dd (dep k e.args[n])) by
          rw [List.take_succ_eq_append_getElem hlt, deps_snoc, HD.out]
          simp [hnz])
        have hdb := deps_bound _ k (dep_le k) _ _ HD.out
        have hdx := dep_le k e.args[n]
        subst hA
        have HNZ := Lib.hid hnz
        have HOE := Lib.hid hoe
        clear hc hE1 hnz hoe
        generalize e.args[n] = x at *
        have hlkw : lk < wr.heap.size := by omega
        have hne : lk ≠ wr.heap.size := by omega
        go_wp2_with fail
        refine (IH.out x _ _ (by omega) HNZ.out HOE.out (EIn.al HE1.out _) ((HG.out.up hBW.out).al _) (by rw [World.cell?_alloc_lt _ _ _ (show lk < _ by omega)]; exact hck)).mono ?_
        rintro x' w2 ⟨rfl, hb⟩
        have HB2 := Lib.hid (after (HW.out.alloc hz _) hb)
        have hdk : k ≤ 20 := by omega
        clear hb hck a0 a1 a2 a3 a4
        go_wp2_with fail
        go_roundw
        case rel => exact ⟨n + 1, max dd (dep k x), by omega, by go_num, int_eq (by split <;> omega), HSN, HB2⟩
        case measure => simp [intOf]; omega
      · obtain rfl : n = e.args.length := by omega
        have hd := HD.out
        rw [List.take_length] at hd
        have hdf : dep (k + 1) e = dd + 1 := by rw [HDE.out, hd]; rfl
        have HDF := Lib.hid hdf
        have h20 : dd + 1 ≤ 20 := by have := HLE.out; omega
        have hBW := Lib.hid (show Below w.heap.size w wr from HB0.out.trans (HW.out.mono (by have := HW0.out; omega)))
        obtain ⟨x0, x1, x2, x3, x4⟩ := HX0.out.keep HW.out (by have := HW0.out; omega)
        clear hd hdf
        go_wp2_with fail
        refine (expr_calls e HO.out _ _ (HE.out.up hBW.out) (HG.out.up hBW.out)).mono ?_
        rintro x' w2 ⟨rfl, hb⟩
        rw [HXB.out]
        have HB2 := Lib.hid (after hBW.out hb)
        have HV2 := Lib.hid (after HW.out hb)
        obtain ⟨y0, y1, y2, y3, y4⟩ := HX0.out.keep (after HW.out hb) (by have := HW0.out; omega)
        clear hb x0 x1 x2 x3 x4
        simp only [errI_true]
        go_wp2_with fail
        refine (depth_calls e HO.out _ _ (HE.out.up HB2.out) (HG.out.up HB2.out)).mono ?_
        rintro x' w3 ⟨rfl, hb⟩
        rw [H20.out, HDF.out]
        have HB3 := Lib.hid (after HB2.out hb)
        obtain ⟨z0, z1, z2, z3, z4⟩ := HX0.out.keep (after HV2.out hb) (by have := HW0.out; omega)
        clear hb y0 y1 y2 y3 y4
        go_wp2_with fail
        refine (sameExpr_calls e e HO.out HO.out _ _ _ (HE.out.up HB3.out) (HE.out.up HB3.out) (HG.out.up HB3.out)).mono ?_
        rintro x' w4 ⟨rfl, hb⟩
        rw [sameE_self HXB.out]
        have HB4 := Lib.hid (after HB3.out hb)
        clear hb z0 z1 z2 z3 z4
        go_wp2_with fail
        go_ret
        exact ⟨by rw [HDF.out]; rfl, HB4.out⟩
end Go.Proofs.YthiilnhiihfknaaDoor

namespace Go.Proofs.YthiilnhiihfknaaDoor
open Go Go.RowKit

/-! ### plain laws -/
theorem vis_shift (k : Nat) : ∀ (l : List St) (n m n' k' : Nat), vis FA k l n = some m → n ≤ 200 → n' ≤ n → k ≤ k' → vis FA k' l n' = some (m - n + n') := by
  induction k with
  | zero =>
    intro l n m n' k' h _ _ _
    have h1 : l = [] ∧ n = m := by unfold vis at h; split at h; exact ⟨‹_›, by simpa using h⟩; cases h
    obtain ⟨rfl, rfl⟩ := h1
    rw [vis_nil]
    congr 1
    omega
  | succ k ih =>
    intro l n m n' k' h h0 hn hk
    cases k' with
    | zero => omega
    | succ k' =>
      rw [vis_succ] at h ⊢
      revert n m n'
      induction l with
      | nil => intro n m n' h _ _; simp at h; subst h; simp
      | cons s l ihl =>
        intro n m n' h h0 hn
        have hbm := vis_bounds FA (k + 1) (s :: l) n m (by rw [vis_succ]; exact h) h0
        rw [List.foldlM_cons] at h ⊢
        unfold visS at h
        split at h
        · simp at h
        · rename_i hc
          simp only [Option.bind_eq_bind] at h
          rw [Option.bind_assoc, Option.bind_eq_some_iff] at h
          obtain ⟨a, ha, h⟩ := h
          rw [Option.bind_eq_some_iff] at h
          obtain ⟨b, hb, h⟩ := h
          have i1 := vis_bounds FA k _ _ _ ha (by omega)
          have i2 := vis_bounds FA k _ _ _ hb (by omega)
          have e1 := ih s.body (n + 1) a (n' + 1) k' ha (by omega) (by omega) (by omega)
          have e2 := ih s.els a b (a - (n + 1) + (n' + 1)) k' hb (by omega) (by omega) (by omega)
          have e3 := ihl b m (b - a + (a - (n + 1) + (n' + 1))) h (by omega) (by omega)
          have i3 := vis_bounds FA (k + 1) l b m (by rw [vis_succ]; exact h) (by omega)
          have hv : visS FA k' n' s = some (b - a + (a - (n + 1) + (n' + 1))) := by
            unfold visS
            have hh : FA n' s = true := by
              have : ¬ FA n s = false := fun hh => hc (.inr hh)
              simpa [FA] using this
            rw [if_neg (by rw [hh]; simp; omega), e1, Option.bind_some, e2]
          rw [hv]
          simp only [Option.bind_eq_bind, Option.bind_some]
          rw [e3]
          congr 1
          omega
def VisOk (k : Nat) (l : List St) : Prop := ∃ n m, n ≤ 200 ∧ vis FA k l n = some m
theorem VisOk.at_ {k : Nat} {l : List St} (h : VisOk (k + 1) l) (hk : k + 1 ≤ 20) {i : Nat} (hi : i < l.length) : headB l[i] = true ∧ VisOk k l[i].body ∧ VisOk k l[i].els ∧ rightL [l[i]] = true := by
  obtain ⟨n, m, hn, hv⟩ := h
  have hf : ∀ i, i ≤ l.length → ∃ q, (l.take i).foldlM (visS FA k) n = some q := by
    intro i
    induction i with
    | zero => intro _; exact ⟨n, rfl⟩
    | succ i ih =>
      intro hi
      obtain ⟨q, hq⟩ := ih (by omega)
      obtain ⟨a, b, _, _, _, _, h, _⟩ := vis_at hv hn (show i < l.length by omega) hq
      exact ⟨b, h⟩
  obtain ⟨q, hq⟩ := hf i (by omega)
  obtain ⟨a, b, h200, hF, hb1, hb2, _, ha2, hbb2⟩ := vis_at hv hn hi hq
  refine ⟨hF, ⟨q + 1, a, by omega, hb1⟩, ⟨a, b, ha2, hb2⟩, ?_⟩
  have i1 := vis_bounds FA k _ _ _ hb1 (by omega)
  have e1 := vis_shift k l[i].body (q + 1) a 1 19 hb1 (by omega) (by omega) (by omega)
  have e2 := vis_shift k l[i].els a b (a - (q + 1) + 1) 19 hb2 (by omega) (by omega) (by omega)
  unfold rightL
  show (vis FA (19 + 1) [l[i]] 0).isSome = true
  rw [vis_succ, List.foldlM_cons]
  have hv : visS FA 19 0 l[i] = some (b - a + (a - (q + 1) + 1)) := by
    unfold visS
    have hh : FA 0 l[i] = true := hF
    rw [if_neg (by rw [hh]; simp), Nat.zero_add, e1, Option.bind_some, e2]
  rw [hv]
  rfl
theorem sameSt_self {s : St} (h : rightL [s] = true) : sameSt s s = true := by simp [sameSt, h, eqSt]
theorem VisOk.zero {l : List St} (h : VisOk 0 l) : l = [] := by
  obtain ⟨n, m, _, hv⟩ := h
  unfold vis at hv
  split at hv
  · assumption
  · cases hv

set_option maxRecDepth 100000 in
set_option maxHeartbeats 8000000 in
theorem walk_calls (lk ok wk : Nat) (k : Nat) : ∀ (l : List St) (v : Value) (w : World), k ≤ 20 → VisOk k l → SIn w w.heap.size l v → Glob w → w.cell? ⟨lk, 0, none⟩ = some (lookF lk ok) → w.cell? ⟨wk, 0, none⟩ = some (walkF lk ok wk) →
    Calls Tryd.prog 36 #[v, .pointer (some ⟨lk, 0, none⟩), .pointer (some ⟨ok, 0, none⟩), .pointer (some ⟨wk, 0, none⟩)] w fun x w' => x = .returned (.tuple #[]) ∧ Below w.heap.size w w' := by
  induction k with
  | zero =>
    intro l v w _ h hE _ _ _
    have := h.zero
    subst this
    obtain ⟨A, c, rfl⟩ := hE.slice
    clear hE h
    go_enter Tryd.func36, Tryd.ntmps36
    go_wp2_with fail
    refine wp_loop_rounds 1 ?_
    rw [rounds_succ]
    go_wp2_with fail
    go_end0
    exact ⟨rfl, Below.refl _ _⟩
  | succ k ih =>
    intro l v w hk hV hE hG hcl hcw
    have IH := Lib.hid ih
    have HV := Lib.hid hV
    have HE := Lib.hid hE
    have HG := Lib.hid hG
    have hlk := World.block_lt_of_cell? _ _ hcl
    have hwk := World.block_lt_of_cell? _ _ hcw
    have HCL := Lib.hid hcl
    have HCW := Lib.hid hcw
    have hlen := hE.le
    obtain ⟨A, c, rfl⟩ := hE.slice
    clear ih hV hE hG hcl hcw
    go_enter Tryd.func36, Tryd.ntmps36
    go_wp2_with fail
    go_loopw [11] (fun i wr => ∃ n : Nat, n ≤ l.length ∧ i = .int .i64 n ∧ Hid (Below w.heap.size w wr)) (fun i _ => l.length - (intOf i).toNat)
    case atStart => exact ⟨0, by omega, rfl, Lib.hid (Below.refl _ _)⟩
    case round =>
      obtain ⟨n, hn, rfl, HW⟩ := hrel
      have hz := HW.out.size
      by_cases hlt : n < l.length
      · obtain ⟨b, o, va, vb, ve, hA, hbl, hos, hc, ha, hb, he⟩ := HE.out.at_.2 n hlt
        obtain ⟨a0, a1, a2, a3, a4, a5, a6, a7⟩ := hc.keep (fun q => HW.out.cell (p := ⟨b, q, none⟩) hbl)
        obtain ⟨hhead, hvb, hve, hright⟩ := HV.out.at_ hk hlt
        obtain ⟨A5, c5, rfl⟩ := ha.slice
        obtain ⟨A6, c6, rfl⟩ := hb.slice
        obtain ⟨A7, c7, rfl⟩ := he.slice
        have hal := ha.le
        have HAr := Lib.hid (EIn.up ha HW.out)
        have HBr := Lib.hid (SIn.up hb HW.out)
        have HEr := Lib.hid (SIn.up he HW.out)
        have HHD := Lib.hid (headB_args hhead)
        have HVB := Lib.hid hvb
        have HVE := Lib.hid hve
        have HSS := Lib.hid (sameSt_self hright)
        have HOS := Lib.hid hos
        subst hA
        clear hc ha hb he hhead hvb hve hright hos
        generalize l[n] = s at *
        have HB0 := Lib.hid (bal wr (sO s (.slice A5 s.args.length c5) (.slice A6 s.body.length c6) (.slice A7 s.els.length c7)))
        have HX0 := Lib.hid (SBox.new wr s (.slice A5 s.args.length c5) (.slice A6 s.body.length c6) (.slice A7 s.els.length c7))
        have HW0 := Lib.hid (sz1 wr (sO s (.slice A5 s.args.length c5) (.slice A6 s.body.length c6) (.slice A7 s.els.length c7)))
        go_wp2_with fail
        clear a0 a1 a2 a3 a4 a5 a6 a7
        generalize (wr.alloc (sO s (.slice A5 s.args.length c5) (.slice A6 s.body.length c6) (.slice A7 s.els.length c7))) = w0 at *
        have HBW := Lib.hid (show Below w.heap.size w w0 from after HW.out HB0.out)
        generalize wr = wo at *
        go_loopw [18] (fun i wi => ∃ j : Nat, j ≤ s.args.length ∧ i = .int .i64 j ∧ Hid (Below w0.heap.size w0 wi)) (fun i _ => s.args.length - (intOf i).toNat)
        case atStart => exact ⟨0, by omega, rfl, Lib.hid (Below.refl _ _)⟩
        case round =>
          obtain ⟨j, hj, rfl, HI⟩ := hrel
          have hzi := HI.out.size
          have hz0 := HW0.out
          have HBI := Lib.hid (show Below w.heap.size w wr from after HBW.out (HI.out.mono (Nat.le_refl _)))
          have HRI := Lib.hid (show Below wo.heap.size wo wr from HB0.out.trans (HI.out.mono (by omega)))
          have hcl := (HBI.out.cell (p := ⟨lk, 0, none⟩) hlk).trans HCL.out
          have hcw := (HBI.out.cell (p := ⟨wk, 0, none⟩) hwk).trans HCW.out
          by_cases hjt : j < s.args.length
          · obtain ⟨b2, o2, v1, hA2, hbl2, hoe, hc2, hE1⟩ := HAr.out.at_.2 j hjt
            obtain ⟨d0, d1, d2, d3, d4⟩ := hc2.keep (fun q => HRI.out.cell (p := ⟨b2, q, none⟩) hbl2)
            obtain ⟨A1, c1, rfl⟩ := hE1.slice
            have HE1 := Lib.hid (EIn.up hE1 HRI.out)
            have HNZ := Lib.hid (HHD.out.2 _ (List.getElem_mem hjt))
            have HOE := Lib.hid hoe
            subst hA2
            clear hc2 hE1 hoe hcw
            generalize s.args[j] = x at *
            have hlkw : lk < wr.heap.size := by omega
            have hnel : lk ≠ wr.heap.size := by omega
            go_wp2_with fail
            refine (look_calls lk ok 20 x _ _ (by omega) HNZ.out HOE.out (EIn.al HE1.out _) ((HG.out.up HBI.out).al _) (by rw [World.cell?_alloc_lt _ _ _ (show lk < _ by omega)]; exact hcl)).mono ?_
            rintro x' w2 ⟨rfl, hq⟩
            have HQ := Lib.hid (after (HI.out.alloc hzi _) hq)
            clear hq hcl d0 d1 d2 d3 d4
            go_wp2_with fail
            go_roundw
            case rel => exact ⟨j + 1, by omega, by go_num, HQ⟩
            case measure => simp [intOf]; omega
          · obtain rfl : j = s.args.length := by omega
            obtain ⟨x0, x1, x2, x3, x4, x5, x6, x7⟩ := HX0.out.keep HI.out (by omega)
            clear hcl hcw
            go_wp2_with fail
            refine (sameStmt_calls s s HOS.out HOS.out _ _ _ _ _ _ _ (HAr.out.up HRI.out) (HBr.out.up HRI.out) (HEr.out.up HRI.out) (HAr.out.up HRI.out) (HBr.out.up HRI.out) (HEr.out.up HRI.out) (HG.out.up HBI.out)).mono ?_
            rintro x' w2 ⟨rfl, hq⟩
            rw [HSS.out]
            have HB2 := Lib.hid (after HBI.out hq)
            have HR2 := Lib.hid (after HRI.out hq)
            have HI2 := Lib.hid (after HI.out hq)
            obtain ⟨y0, y1, y2, y3, y4, y5, y6, y7⟩ := HX0.out.keep HI2.out (by omega)
            have hcw := (HB2.out.cell (p := ⟨wk, 0, none⟩) hwk).trans HCW.out
            clear hq x0 x1 x2 x3 x4 x5 x6 x7
            go_wp2_with fail
            refine (IH.out s.body _ _ (by omega) HVB.out (HBr.out.up HR2.out) (HG.out.up HB2.out) ((HB2.out.cell (p := ⟨lk, 0, none⟩) hlk).trans HCL.out) hcw).mono ?_
            rintro x' w3 ⟨rfl, hq⟩
            have HB3 := Lib.hid (after HB2.out hq)
            have HR3 := Lib.hid (after HR2.out hq)
            have HI3 := Lib.hid (after HI2.out hq)
            obtain ⟨z0, z1, z2, z3, z4, z5, z6, z7⟩ := HX0.out.keep HI3.out (by omega)
            have hcw3 := (HB3.out.cell (p := ⟨wk, 0, none⟩) hwk).trans HCW.out
            clear hq y0 y1 y2 y3 y4 y5 y6 y7 hcw
            go_wp2_with fail
            refine (IH.out s.els _ _ (by omega) HVE.out (HEr.out.up HR3.out) (HG.out.up HB3.out) ((HB3.out.cell (p := ⟨lk, 0, none⟩) hlk).trans HCL.out) hcw3).mono ?_
            rintro x' w4 ⟨rfl, hq⟩
            have HB4 := Lib.hid (after HB3.out hq)
            clear hq z0 z1 z2 z3 z4 z5 z6 z7 hcw3
            go_wp2_with fail
            go_roundw
            case rel => exact ⟨n + 1, by omega, by go_num, HB4⟩
            case measure => simp [intOf]; omega
      · obtain rfl : n = l.length := by omega
        go_wp2_with fail
        go_end0
        exact ⟨rfl, HW.out⟩
end Go.Proofs.YthiilnhiihfknaaDoor

namespace Go.Proofs.YthiilnhiihfknaaDoor
open Go Go.RowKit

theorem run_funcs (W : World) (A : Option Addr) (n c : Nat) : (Instr.field 35 (.agg #[.slice A n c]) 0).run Tryd.prog W = .ok (.slice A n c) W := by kernel_rfl
set_option maxRecDepth 100000 in
set_option maxHeartbeats 8000000 in
theorem shapeParts_calls (la : Bytes) (va : Value) (w : World) (ha : DrIn w la va) (hG : Glob w) :
    Calls Tryd.prog 7 #[va] w fun e w' => e = .returned (.bool true) ∧ Below w.heap.size w w' := by
  have HA := Lib.hid ha
  have HG := Lib.hid hG
  clear ha hG
  go_enter Tryd.func7, Tryd.ntmps7
  go_wp2_with fail
  obtain ⟨b1, b2, b3, b4⟩ := three w (.cells #[.bool true] 4) (.cells #[lookF (w.heap.size + 1) w.heap.size] 30) (.cells #[walkF (w.heap.size + 1) w.heap.size (w.heap.size + 1 + 1)] 56)
  have hb3 := bal3 w (.cells #[.bool true] 4) (.cells #[lookF (w.heap.size + 1) w.heap.size] 30) (.cells #[walkF (w.heap.size + 1) w.heap.size (w.heap.size + 1 + 1)] 56)
  have HB0 := Lib.hid hb3
  have H1 := Lib.hid b1
  have H2 := Lib.hid b2
  have H3 := Lib.hid b3
  have HZ := Lib.hid b4
  clear b1 b2 b3 b4 hb3
  generalize (((w.alloc (.cells #[.bool true] 4)).alloc (.cells #[lookF (w.heap.size + 1) w.heap.size] 30)).alloc (.cells #[walkF (w.heap.size + 1) w.heap.size (w.heap.size + 1 + 1)] 56)) = w0 at *
  refine (made_calls la _ _ (HA.out.up HB0.out)).mono ?_
  rintro e w1 hm
  obtain ⟨g1, k1, V1, rfl, hb1, _, hp1⟩ := hm.at_
  have HB1 := Lib.hid (after HB0.out hb1)
  have HP := Lib.hid hp1
  have J1 := Lib.hid ((hb1.block _ (lt_of_block H1.out)).trans H1.out)
  have J2 := Lib.hid ((hb1.block _ (lt_of_block H2.out)).trans H2.out)
  have J3 := Lib.hid ((hb1.block _ (lt_of_block H3.out)).trans H3.out)
  have hl := madeD_len la
  have hck := madeD_check la
  have HF := Lib.hid (show ∀ f ∈ madeD la, VisOk 20 f.body from fun f hf => by
    simp only [checkB, fnsB, Bool.and_eq_true, List.all_eq_true] at hck
    have := hck.1.2 f hf
    obtain ⟨m, hm, _⟩ := fnB_vis this
    exact ⟨0, m, by omega, hm⟩)
  have HLE := Lib.hid hp1.fin
  clear hm hb1 hp1 hck
  generalize madeD la = P at *
  have hzw : w.heap.size + 1 + 1 < w1.heap.size := lt_of_block J3.out
  have hrf := run_funcs
  go_wp2_with fail
  go_loopw [14] (fun i wr => ∃ n : Nat, n ≤ P.length ∧ i = .int .i64 n ∧ Hid (Below w1.heap.size w1 wr)) (fun i _ => P.length - (intOf i).toNat)
  case atStart => exact ⟨0, by omega, rfl, Lib.hid (Below.refl _ _)⟩
  case round =>
    obtain ⟨n, hn, rfl, HW⟩ := hrel
    have hz := HW.out.size
    have HBW := Lib.hid (show Below w.heap.size w wr from HB1.out.trans (HW.out.mono HB1.out.size))
    have c1 := cell_of_one ((HW.out.block _ (lt_of_block J1.out)).trans J1.out)
    have c2 := cell_of_one ((HW.out.block _ (lt_of_block J2.out)).trans J2.out)
    have c3 := cell_of_one ((HW.out.block _ (lt_of_block J3.out)).trans J3.out)
    by_cases hlt : n < P.length
    · obtain ⟨b, o, vp, vb, hA, hbl, hok, hcc, hp, hb⟩ := HLE.out.at_ n hlt
      obtain ⟨a0, a1, a2, a3, a4⟩ := hcc.keep (fun q => HW.out.cell (p := ⟨b, q, none⟩) hbl)
      obtain ⟨Ap, cp, rfl⟩ := hp.slice
      obtain ⟨Ab, cb, rfl⟩ := hb.slice
      have HBd := Lib.hid (SIn.up hb HW.out)
      have HVI := Lib.hid (HF.out _ (List.getElem_mem hlt))
      cases hA
      rw [Nat.zero_add] at a0 a1 a2 a3 a4
      clear hcc hp hb hok c1
      generalize P[n] = x at *
      have hlt3 : w.heap.size + 1 + 1 < wr.heap.size := by omega
      have hne3 : w.heap.size + 1 + 1 ≠ wr.heap.size := by omega
      have HB2 := Lib.hid (bal wr (fO x (.slice Ap x.params.length cp) (.slice Ab x.body.length cb)))
      go_wp2_with fail
      refine (walk_calls (w.heap.size + 1) w.heap.size (w.heap.size + 1 + 1) 20 x.body _ _ (by omega) HVI.out (HBd.out.up HB2.out) (HG.out.up (after HBW.out HB2.out)) ((HB2.out.cell (p := ⟨w.heap.size + 1, 0, none⟩) (by show w.heap.size + 1 < _; omega)).trans c2) ((HB2.out.cell (p := ⟨w.heap.size + 1 + 1, 0, none⟩) hlt3).trans c3)).mono ?_
      rintro x' w2 ⟨rfl, hq⟩
      have HQ := Lib.hid (after (after HW.out HB2.out) hq)
      clear hq a0 a1 a2 a3 a4 c2 c3
      go_wp2_with fail
      go_roundw
      case rel => exact ⟨n + 1, by omega, by go_num, HQ⟩
      case measure => simp [intOf]; omega
    · obtain rfl : n = P.length := by omega
      clear c2 c3
      go_wp2_with fail
      refine (works_calls _ (HG.out.up HBW.out)).mono ?_
      rintro x' w2 ⟨rfl, hq⟩
      have HQ := Lib.hid (after HBW.out hq)
      clear hq
      go_wp2_with fail
      go_ret
      exact ⟨rfl, HQ.out⟩
end Go.Proofs.YthiilnhiihfknaaDoor
