/-
  The document's own reading of expressions: its small functions: contracts.
-/
import Derived.Test.YtlhifbckmknijaaGreatDoorEWk
import Derived.Test.YtlhifbckmknijaaGreatDoorESg
import Derived.Test.YtlhifbckmknijaaGreatDoorSRefDepth
namespace Go.Proofs.YtlhifbckmknijaaGreatDoor.E5
open Go Go.RowKit Go.Proofs.YtlhifbckmknijaaGreatDoor

theorem tokU {W W' : World} {v : Value} {l : TL} (h : TokL W W.heap.size v l) (hb : Below W.heap.size W W') : TokL W' W'.heap.size v l := (h.bel hb).keep hb.size fun _ _ _ => rfl
theorem run_tkR (k : Int) (s : ByteArray) (a : Int) (W : World) : (Instr.field 89 (.agg #[.int .i64 k, .string s, .int .i64 a]) 0).run Tryz.prog W = .ok (.int .i64 k) W := by kernel_rfl
theorem run_txR (k : Int) (s : ByteArray) (a : Int) (W : World) : (Instr.field 89 (.agg #[.int .i64 k, .string s, .int .i64 a]) 1).run Tryz.prog W = .ok (.string s) W := by kernel_rfl
theorem tk_out {l : TL} {i : Nat} (h : l.length ≤ i) : tkAt l i = (0, []) := by unfold tkAt; rw [List.getElem?_eq_none h]; rfl
theorem tk_in {l : TL} {i : Nat} (h : i < l.length) : l[i]? = some (tkAt l i) := by unfold tkAt; rw [List.getElem?_eq_getElem h]; rfl
set_option maxRecDepth 100000 in
set_option maxHeartbeats 1000000 in
theorem ris_calls {w : World} {l : TL} {v : Value} (hT : TokL w w.heap.size v l) (i : Nat) (k : Int) (s : Bytes) (hk : k ≠ 0) :
    Calls Tryz.prog 48 #[v, .int .i64 (i : Int), .int .i64 k, .string (B s)] w fun e w' => e = .returned (.bool (decide (tkAt l i = (k, s)))) ∧ Below w.heap.size w w' := by
  obtain ⟨A, c, rfl, hl, ht⟩ := hT
  rcases Nat.lt_or_ge i l.length with hlt | hge
  · obtain ⟨_, tb, o, a, rfl, hbl, e0, e1, e2⟩ := ht i _ (tk_in hlt)
    have q : (i : Int) < (l.length : Int) := by omega
    have hi0 : (0 : Int) ≤ (i : Int) := by omega
    generalize tkAt l i = t at *
    obtain ⟨t1, t2⟩ := t
    clear ht e2
    simp only at e0 e1
    by_cases h1 : t1 = k
    · subst h1
      by_cases h2 : t2 = s
      · subst h2
        rw [decide_eq_true rfl]
        have q1 : (t1 == t1) = true := beq_self_eq_true _
        have q2 : (t2 == t2) = true := beq_self_eq_true _
        go_enter Tryz.func48, Tryz.ntmps48
        go_wp2_with fail
        go_ret
        exact ⟨rfl, Below.refl _ _⟩
      · have F := Lib.hid (decide_eq_false (p := ((t1, t2) = (t1, s))) (by simpa using h2))
        have q1 : (t1 == t1) = true := beq_self_eq_true _
        have q2 : (t2 == s) = false := beq_eq_false_iff_ne.2 h2
        go_enter Tryz.func48, Tryz.ntmps48
        go_wp2_with fail
        go_ret
        exact ⟨by first | rfl | (rw [F.out]; rfl), Below.refl _ _⟩
    · have F := Lib.hid (decide_eq_false (p := ((t1, t2) = (k, s))) (by simp [h1]))
      have q1 : (t1 == k) = false := beq_eq_false_iff_ne.2 h1
      go_enter Tryz.func48, Tryz.ntmps48
      go_wp2_with fail
      go_ret
      exact ⟨by first | rfl | (rw [F.out]; rfl), Below.refl _ _⟩
  · have F := Lib.hid (decide_eq_false (p := (tkAt l i = (k, s))) (by rw [tk_out hge]; intro e; exact hk (Prod.mk.inj e).1.symm))
    have q : ¬ (i : Int) < (l.length : Int) := by omega
    go_enter Tryz.func48, Tryz.ntmps48
    go_wp2_with fail
    go_ret
    exact ⟨by first | rfl | (rw [F.out]; rfl), Below.refl _ _⟩
theorem is_sg {l : TL} {i : Nat} {s : Bytes} (hs : s ≠ []) : decide (tkAt l i = (4, s)) = (sgAt l i == s) := by
  unfold sgAt
  generalize tkAt l i = t
  obtain ⟨t1, t2⟩ := t
  by_cases h : t1 = 4
  · subst h; simp
    by_cases h2 : t2 = s
    · simp [h2]
    · simp [h2]
  · simp only [h, if_false, Prod.mk.injEq, false_and, decide_false]
    exact (beq_eq_false_iff_ne.2 fun e => hs e.symm).symm
theorem rsg_calls {w : World} {l : TL} {v : Value} (hT : TokL w w.heap.size v l) (i : Nat) (s : Bytes) (hs : s ≠ []) :
    Calls Tryz.prog 48 #[v, .int .i64 (i : Int), .int .i64 4, .string (B s)] w fun e w' => e = .returned (.bool (sgAt l i == s)) ∧ Below w.heap.size w w' := by
  have := ris_calls hT i 4 s (by decide)
  rwa [is_sg hs] at this
set_option maxRecDepth 100000 in
set_option maxHeartbeats 1000000 in
theorem rnm_calls (k : Int) (s : Bytes) (a : Int) (hs : s.length ≤ 9223372036854775807) (w : World) :
    Calls Tryz.prog 132 #[.agg #[.int .i64 k, .string (B s), .int .i64 a]] w fun e w' => e = .returned (.bool (nmTok (k, s))) ∧ Below w.heap.size w w' := by
  by_cases h : k = 1
  · subst h
    have F := Lib.hid (show nmTok (1, s) = S3.nameB s by simp [nmTok])
    have C := Lib.hid (S3.refName_calls s hs)
    go_enter Tryz.func132, Tryz.ntmps132
    go_wp2_with fail
    refine (C.out _).mono ?_
    rintro e w1 ⟨rfl, hb⟩
    have HB := Lib.hid hb
    clear hb
    go_wp2_with fail
    go_ret
    exact ⟨by first | rfl | (rw [F.out]; rfl), by first | exact HB.out | exact after (S3.bal w _) HB.out⟩
  · have F := Lib.hid (show nmTok (k, s) = false by simp [nmTok, h])
    have q1 : (k == 1) = false := beq_eq_false_iff_ne.2 h
    go_enter Tryz.func132, Tryz.ntmps132
    go_wp2_with fail
    go_ret
    exact ⟨by first | rfl | (rw [F.out]; rfl), by first | exact Below.refl _ _ | exact S3.bal w _⟩
end Go.Proofs.YtlhifbckmknijaaGreatDoor.E5
