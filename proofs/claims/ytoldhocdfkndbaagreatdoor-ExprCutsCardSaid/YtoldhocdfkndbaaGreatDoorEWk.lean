/-
  The law's own small functions: scan, variable, number, pair: contracts.
  ExprOps, its examples' contract given.
-/
import Derived.Test.YtoldhocdfkndbaaGreatDoorERead2
import Derived.Test.YtoldhocdfkndbaaGreatDoorEWf
import Derived.Test.YtoldhocdfkndbaaGreatDoorLHas
import Derived.Test.YtoldhocdfkndbaaGreatDoorLMath
import Derived.Test.YtoldhocdfkndbaaGreatDoorESg
namespace Go.Proofs.YtoldhocdfkndbaaGreatDoor.E5
open Go Go.RowKit Go.Proofs.YtoldhocdfkndbaaGreatDoor

/-- All the variables that the laws of expressions lean on. -/
structure GlobA (w : World) : Prop where
  e : GlobE w
  l : L4.Glob w
theorem GlobA.up {w w' : World} (h : GlobA w) (hb : Below w.heap.size w w') : GlobA w' := ⟨h.e.up hb, h.l.below hb⟩
theorem GlobA.al {w : World} (h : GlobA w) (o : Obj) : GlobA (w.alloc o) := h.up ((Below.refl _ w).alloc (Nat.le_refl _) o)

theorem chain_small {s : Bytes} : ∀ {l : List L4.Tk} {e : Nat}, L4.Chain s e l → e + l.length ≤ s.length ∧ ∀ t ∈ l, t.t.length ≤ s.length := by
  intro l
  induction l with
  | nil => intro e h; exact ⟨h.1, by simp⟩
  | cons t l ih =>
    intro e h
    obtain ⟨h1, h2, h3, h4, h5, h6⟩ := h
    obtain ⟨i1, i2⟩ := ih h6
    obtain ⟨f1, f2⟩ := L4.tok_fits h4 h5
    have := L4.skAt_le s e h1
    refine ⟨?_, ?_⟩
    · rw [List.length_cons]; omega
    · intro x hx
      rcases List.mem_cons.1 hx with rfl | hx
      · omega
      · exact i2 x hx
theorem tokL_toks {w : World} {v : Value} {l : List L4.Tk} {n : Nat} (h : L4.Toks w v l) (hl : l.length ≤ n) (ht : ∀ t ∈ l, t.t.length ≤ n) (hn : n ≤ 1000000) : TokL w w.heap.size v (tlOf l) := by
  obtain ⟨A, c, rfl⟩ := h.slice
  have hz : (tlOf l).length = l.length := by simp [tlOf]
  refine ⟨A, c, by rw [hz], by omega, fun i t hi => ?_⟩
  have hi' : (l.map fun t => (t.k, t.t))[i]? = some t := hi
  rw [List.getElem?_map, Option.map_eq_some_iff] at hi'
  obtain ⟨x, hx, rfl⟩ := hi'
  rcases h with ⟨rfl, _⟩ | ⟨_, b, o, c', hv, hb, hc⟩
  · simp at hx
  · cases hv
    obtain ⟨c0, c1, c2⟩ := hc i x hx
    have := ht x (List.mem_of_getElem? hx)
    exact ⟨by show x.t.length ≤ _; omega, b, o, _, rfl, hb, c0, c1, c2⟩
theorem tokL_nil (w : World) (M : Nat) : TokL w M (.slice none 0 0) [] := ⟨none, 0, rfl, by decide, fun i t hi => by simp at hi⟩
theorem tlS_len (s : Bytes) : (tlS s).length ≤ s.length := by
  unfold tlS
  by_cases h : (L4.scan s).2 = none
  · rw [if_pos h]
    have := (chain_small (L4.scan_chain (s := s) (l := (L4.scan s).1) (by rw [← h]))).1
    simp [tlOf]; omega
  · rw [if_neg h]; simp

def ScanP (s : Bytes) (w : World) (E : Ending) (w' : World) : Prop := ∃ A c, E = .returned (.slice A (tlS s).length c) ∧ TokL w' w'.heap.size (.slice A (tlS s).length c) (tlS s) ∧ Below w.heap.size w w'
theorem TokL.val {w : World} {M : Nat} {v : Value} {l : TL} (h : TokL w M v l) : ∃ A c, v = .slice A l.length c := by obtain ⟨A, c, h, _⟩ := h; exact ⟨A, c, h⟩
set_option maxHeartbeats 1000000 in
theorem scan_fn (s : Bytes) (hs : s.length ≤ 1000000) (w : World) (hG : L4.Glob w) :
    Calls Tryz.prog 22 #[.string (B s)] w (ScanP s w) := by
  have HG := Lib.hid hG
  clear hG
  go_enter Tryz.func22, Tryz.ntmps22
  go_wp2_with fail
  refine (L4.scan_calls s hs _ HG.out).mono ?_
  rintro E w1 ⟨hb, h1, h2⟩
  have HB := Lib.hid hb
  clear hb
  cases hsc : (L4.scan s).2 with
  | some a =>
    obtain rfl := h1 a hsc
    have HT := Lib.hid (show tlS s = [] by unfold tlS; rw [if_neg (by rw [hsc]; simp)])
    clear h1 h2
    go_wp2_with fail
    go_ret
    exact ⟨none, 0, by rw [HT.out]; rfl, by rw [HT.out]; exact tokL_nil _ _, HB.out⟩
  | none =>
    obtain ⟨v, rfl, ho⟩ := h2 hsc
    obtain ⟨g1, g2⟩ := chain_small (L4.scan_chain (s := s) (l := (L4.scan s).1) (by rw [← hsc]))
    have hT := tokL_toks (L4.Toks.of_own ho) (by omega) g2 hs
    rw [show tlOf (L4.scan s).1 = tlS s by unfold tlS; rw [if_pos hsc]] at hT
    obtain ⟨A, c, rfl⟩ := hT.val
    have HT := Lib.hid hT
    clear h1 h2 ho g1 g2 hT
    go_wp2_with fail
    go_ret
    exact ⟨A, c, rfl, HT.out, HB.out⟩

theorem variable_calls (s : Bytes) (w : World) : Calls Tryz.prog 51 #[.string (B s)] w fun e w' => e = .returned (S3.eV (vE s) (.slice none 0 0)) ∧ Below w.heap.size w w' := by
  go_enter Tryz.func51, Tryz.ntmps51
  go_wp2_with fail
  exact bodyPost_ret (v := S3.eV (vE s) (.slice none 0 0)) (by simp [results, Tryz.results51, go_sem, vE]) rfl ⟨rfl, S3.bal _ _⟩
theorem number_calls (n : Int) (w : World) : Calls Tryz.prog 52 #[.int .i64 n] w fun e w' => e = .returned (S3.eV (nE n) (.slice none 0 0)) ∧ Below w.heap.size w w' := by
  go_enter Tryz.func52, Tryz.ntmps52
  go_wp2_with fail
  exact bodyPost_ret (v := S3.eV (nE n) (.slice none 0 0)) (by simp [results, Tryz.results52, go_sem, nE]) rfl ⟨rfl, S3.bal _ _⟩
open S3 in
/-- Two expressions in a new row. -/
theorem ein_two {w : World} {a b : Ex} {va vb : Value} {c : Nat} (ha : OkE a) (hb : OkE b) (h1 : EIn w w.heap.size a.args va) (h2 : EIn w w.heap.size b.args vb) (T : TypeId) (ws : List Value) (hw : ws = eC a va ++ eC b vb) :
    EIn (w.alloc (.cells ws.toArray T)) (w.alloc (.cells ws.toArray T)).heap.size [a, b] (.slice (some ⟨w.heap.size, 0, none⟩) 2 c) := by
  subst hw
  have k := fun (i : Nat) (u : Value) (h : (eC a va ++ eC b vb)[i]? = some u) => newCell w (eC a va ++ eC b vb).toArray T i u (by rw [List.getElem?_toArray]; exact h)
  refine .mk [a, b] (some ⟨w.heap.size, 0, none⟩) c (fun i => if i = 0 then va else vb) (by simp) (fun i e he => ?_) (fun i e he => ?_)
  · match i, he with
    | 0, he => cases he; exact ⟨_, 0, rfl, by simp, ha, ⟨k 0 _ rfl, k 1 _ rfl, k 2 _ rfl, k 3 _ rfl, k 4 _ rfl⟩⟩
    | 1, he => cases he; exact ⟨_, 0, rfl, by simp, hb, ⟨k 5 _ rfl, k 6 _ rfl, k 7 _ rfl, k 8 _ rfl, k 9 _ rfl⟩⟩
    | i + 2, he => simp at he
  · match i, he with
    | 0, he => cases he; exact h1.al _
    | 1, he => cases he; exact h2.al _
    | i + 2, he => simp at he
def PairR (op : Int) (a b : Ex) (w : World) (e : Ending) (w' : World) : Prop := ∃ A c, e = .returned (S3.eV (pE op a b) (.slice A 2 c)) ∧ Below w.heap.size w w' ∧ S3.EIn w' w'.heap.size [a, b] (.slice A 2 c)
set_option maxHeartbeats 1000000 in
theorem pair_calls (op : Int) (a b : Ex) (ha : S3.OkE a) (hb : S3.OkE b) (va vb : Value) (w : World) (h1 : S3.EIn w w.heap.size a.args va) (h2 : S3.EIn w w.heap.size b.args vb) :
    Calls Tryz.prog 50 #[.int .i64 op, S3.eV a va, S3.eV b vb] w (PairR op a b w) := by
  obtain ⟨A1, c1, rfl⟩ := h1.slice
  obtain ⟨A2, c2, rfl⟩ := h2.slice
  have H1 := Lib.hid h1
  have H2 := Lib.hid h2
  clear h1 h2
  go_enter Tryz.func50, Tryz.ntmps50
  go_wp2_with fail
  have hb0 := S3.bal2 w (S3.eO a (.slice A1 a.args.length c1)) (S3.eO b (.slice A2 b.args.length c2))
  have hb2 := hb0.alloc hb0.size (.cells #[.int .i64 5, .int .i64 op, .int .i64 0, .string ⟨#[]⟩, .slice (some ⟨w.heap.size + 1 + 1 + 1, 0, none⟩) 2 2] 32)
  refine bodyPost_ret (v := S3.eV (pE op a b) (.slice (some ⟨w.heap.size + 1 + 1 + 1, 0, none⟩) 2 2)) (by simp [results, Tryz.results50, go_sem, pE]) rfl ⟨_, _, rfl, hb2.alloc hb2.size _, ?_⟩
  have := ein_two (c := 2) ha hb (H1.out.up hb2) (H2.out.up hb2) 32 _ rfl
  rwa [show (((w.alloc (S3.eO a (.slice A1 a.args.length c1))).alloc (S3.eO b (.slice A2 b.args.length c2))).alloc (.cells #[.int .i64 5, .int .i64 op, .int .i64 0, .string ⟨#[]⟩, .slice (some ⟨w.heap.size + 1 + 1 + 1, 0, none⟩) 2 2] 32)).heap.size = w.heap.size + 1 + 1 + 1 by simp] at this
end Go.Proofs.YtoldhocdfkndbaaGreatDoor.E5

namespace Go.Proofs.YtoldhocdfkndbaaGreatDoor.E5
open Go Go.RowKit Go.Proofs.YtoldhocdfkndbaaGreatDoor

/-- The examples hold. -/
def WorksR : Prop := ∀ w : World, GlobA w → Calls Tryz.prog 15 #[] w fun e w' => e = .returned (.bool true) ∧ Below w.heap.size w w'

set_option maxHeartbeats 1000000 in
theorem ops_law (hWk : WorksR) (x0 : ByteArray) (x1 : Int) (w : World) (hG : GlobA w) :
    Calls Tryz.prog 3 #[.string x0, .int .i64 x1] w fun e w' => e = .returned (.bool true) ∧ Below w.heap.size w w' := by
  have HWk := Lib.hid hWk
  have HG := Lib.hid hG
  obtain ⟨s, rfl⟩ : ∃ s : Bytes, x0 = B s := ⟨x0.data.toList, rfl⟩
  clear hG hWk
  by_cases hl : s.length ≤ 100
  · have hl' : (((B s).size : Nat) : Int) ≤ 100 := by show ((s.toArray.size : Nat) : Int) ≤ 100; simp; omega
    go_enter Tryz.func3, Tryz.ntmps3
    go_wp2_with fail
    refine (op_calls s _ HG.out.e.o).mono ?_
    rintro e w1 ⟨rfl, hb⟩
    have HB := Lib.hid hb
    clear hb
    go_wp2_with fail
    refine (refop_calls s _).mono ?_
    rintro e w2 ⟨rfl, hb⟩
    have HB := Lib.hid (after HB.out hb)
    clear hb
    go_wp2_with fail
    refine (sign_calls x1 _ (HG.out.up HB.out).e.o).mono ?_
    rintro e w3 ⟨rfl, hb⟩
    have HB := Lib.hid (after HB.out hb)
    clear hb
    go_wp2_with fail
    refine (refsign_calls x1 _).mono ?_
    rintro e w4 ⟨rfl, hb⟩
    have HB := Lib.hid (after HB.out hb)
    clear hb
    go_wp2_with fail
    refine (HWk.out _ (HG.out.up HB.out)).mono ?_
    rintro e w5 ⟨rfl, hb⟩
    have HB := Lib.hid (after HB.out hb)
    clear hb
    go_wp2_with fail
    go_ret
    exact ⟨rfl, HB.out⟩
  · have hl' : ¬ (((B s).size : Nat) : Int) ≤ 100 := by show ¬ ((s.toArray.size : Nat) : Int) ≤ 100; simp; omega
    go_enter Tryz.func3, Tryz.ntmps3
    go_wp2_with fail
    refine (HWk.out _ HG.out).mono ?_
    rintro e w5 ⟨rfl, hb⟩
    have HB := Lib.hid hb
    clear hb
    go_wp2_with fail
    go_ret
    exact ⟨rfl, HB.out⟩
end Go.Proofs.YtoldhocdfkndbaaGreatDoor.E5
