/-
  The document's own reading of statements: sign, keyword, name, wrong; the law's ref: contracts.
  The document's own reading of statements: ended, outside: contracts; what a part gives.
  The document's own reading of statements: valued: contract.
  The document's own reading of statements: called: contract.
  The document's own reading of statements: named: contract, case by case. Written by gen6_named.py.
  The document's own reading of statements: named: contract, case by case. Written by gen6_named.py.
  The document's own reading of statements: named: contract, case by case. Written by gen6_named.py.
  The document's own reading of statements: named: contract, case by case. Written by gen6_named.py.
  The document's own reading of statements: named: contract, whole.
  The document's own reading of statements: stmt: contract, case by case. Written by gen6_stmt.py.
  The document's own reading of statements: stmt: contract, case by case. Written by gen6_stmt.py.
  The document's own reading of statements: stmt: contract, case by case. Written by gen6_stmt.py.
-/
import Derived.Test.YtoldhocdfkndbaaGreatDoorTEq
import Derived.Test.YtoldhocdfkndbaaGreatDoorTTok
import Derived.Test.YtoldhocdfkndbaaGreatDoorNRef
import Derived.Test.YtoldhocdfkndbaaGreatDoorTRead
import Derived.ArgAppend
import Derived.Test.YtoldhocdfkndbaaGreatDoorTMath
namespace Go.Proofs.YtoldhocdfkndbaaGreatDoor.E6
open Go Go.RowKit Go.Proofs.YtoldhocdfkndbaaGreatDoor Go.Proofs.YtoldhocdfkndbaaGreatDoor.E5

set_option maxRecDepth 100000 in
set_option maxHeartbeats 1000000 in
theorem rsign6 {w : World} {l : TL} {v : Value} (hT : TokL w w.heap.size v l) (i : Nat) (s : Bytes) :
    Calls Tryz.prog 116 #[v, .int .i64 (i : Int), .string (B s)] w fun e w' => e = .returned (.bool (decide (tkAt l i = (4, s)))) ∧ Below w.heap.size w w' := by
  obtain ⟨A, c, rfl, hl, ht⟩ := hT
  rcases Nat.lt_or_ge i l.length with hlt | hge
  · obtain ⟨_, tb, o, a, rfl, hbl, e0, e1, e2⟩ := ht i _ (tk_in hlt)
    have q : (i : Int) < (l.length : Int) := by omega
    have hi0 : (0 : Int) ≤ (i : Int) := by omega
    generalize tkAt l i = t at *
    obtain ⟨t1, t2⟩ := t
    clear ht e2
    simp only at e0 e1
    by_cases h1 : t1 = 4
    · subst h1
      by_cases h2 : t2 = s
      · subst h2
        rw [decide_eq_true rfl]
        have q1 : ((4 : Int) == 4) = true := rfl
        have q2 : (t2 == t2) = true := beq_self_eq_true _
        go_enter Tryz.func116, Tryz.ntmps116
        go_wp2_with fail
        go_ret
        exact ⟨rfl, Below.refl _ _⟩
      · have F := Lib.hid (decide_eq_false (p := (((4 : Int), t2) = (4, s))) (by simpa using h2))
        have q1 : ((4 : Int) == 4) = true := rfl
        have q2 : (t2 == s) = false := beq_eq_false_iff_ne.2 h2
        go_enter Tryz.func116, Tryz.ntmps116
        go_wp2_with fail
        go_ret
        exact ⟨by first | rfl | (rw [F.out]; rfl), Below.refl _ _⟩
    · have F := Lib.hid (decide_eq_false (p := ((t1, t2) = (4, s))) (by simp [h1]))
      have q1 : (t1 == 4) = false := beq_eq_false_iff_ne.2 h1
      go_enter Tryz.func116, Tryz.ntmps116
      go_wp2_with fail
      go_ret
      exact ⟨by first | rfl | (rw [F.out]; rfl), Below.refl _ _⟩
  · have F := Lib.hid (decide_eq_false (p := (tkAt l i = (4, s))) (by rw [tk_out hge]; intro e; have := (Prod.mk.inj e).1; simp at this))
    have q : ¬ (i : Int) < (l.length : Int) := by omega
    go_enter Tryz.func116, Tryz.ntmps116
    go_wp2_with fail
    go_ret
    exact ⟨by first | rfl | (rw [F.out]; rfl), Below.refl _ _⟩
set_option maxRecDepth 100000 in
set_option maxHeartbeats 1000000 in
theorem rkey6 {w : World} {l : TL} {v : Value} (hT : TokL w w.heap.size v l) (i : Nat) (s : Bytes) :
    Calls Tryz.prog 110 #[v, .int .i64 (i : Int), .string (B s)] w fun e w' => e = .returned (.bool (decide (tkAt l i = (3, s)))) ∧ Below w.heap.size w w' := by
  obtain ⟨A, c, rfl, hl, ht⟩ := hT
  rcases Nat.lt_or_ge i l.length with hlt | hge
  · obtain ⟨_, tb, o, a, rfl, hbl, e0, e1, e2⟩ := ht i _ (tk_in hlt)
    have q : (i : Int) < (l.length : Int) := by omega
    have hi0 : (0 : Int) ≤ (i : Int) := by omega
    generalize tkAt l i = t at *
    obtain ⟨t1, t2⟩ := t
    clear ht e2
    simp only at e0 e1
    by_cases h1 : t1 = 3
    · subst h1
      by_cases h2 : t2 = s
      · subst h2
        rw [decide_eq_true rfl]
        have q1 : ((3 : Int) == 3) = true := rfl
        have q2 : (t2 == t2) = true := beq_self_eq_true _
        go_enter Tryz.func110, Tryz.ntmps110
        go_wp2_with fail
        go_ret
        exact ⟨rfl, Below.refl _ _⟩
      · have F := Lib.hid (decide_eq_false (p := (((3 : Int), t2) = (3, s))) (by simpa using h2))
        have q1 : ((3 : Int) == 3) = true := rfl
        have q2 : (t2 == s) = false := beq_eq_false_iff_ne.2 h2
        go_enter Tryz.func110, Tryz.ntmps110
        go_wp2_with fail
        go_ret
        exact ⟨by first | rfl | (rw [F.out]; rfl), Below.refl _ _⟩
    · have F := Lib.hid (decide_eq_false (p := ((t1, t2) = (3, s))) (by simp [h1]))
      have q1 : (t1 == 3) = false := beq_eq_false_iff_ne.2 h1
      go_enter Tryz.func110, Tryz.ntmps110
      go_wp2_with fail
      go_ret
      exact ⟨by first | rfl | (rw [F.out]; rfl), Below.refl _ _⟩
  · have F := Lib.hid (decide_eq_false (p := (tkAt l i = (3, s))) (by rw [tk_out hge]; intro e; have := (Prod.mk.inj e).1; simp at this))
    have q : ¬ (i : Int) < (l.length : Int) := by omega
    go_enter Tryz.func110, Tryz.ntmps110
    go_wp2_with fail
    go_ret
    exact ⟨by first | rfl | (rw [F.out]; rfl), Below.refl _ _⟩
theorem sgn6 {w : World} {l : TL} {v : Value} (hT : TokL w w.heap.size v l) {i : Nat} {j : Int} {s : Bytes} {b : Bool} (hq : (sgAt l i == s) = b) (hs : s ≠ []) (hj : j = (i : Int)) :
    Calls Tryz.prog 116 #[v, .int .i64 j, .string (B s)] w fun e w' => e = .returned (.bool b) ∧ Below w.heap.size w w' := by
  subst hj
  rw [← hq, ← is_sg hs]
  exact rsign6 hT i s
theorem is_kw {l : TL} {i : Nat} {s : Bytes} (hs : s ≠ []) : decide (tkAt l i = (3, s)) = (kwAt l i == s) := by
  unfold kwAt
  generalize tkAt l i = t
  obtain ⟨t1, t2⟩ := t
  by_cases h : t1 = 3
  · subst h; simp
    by_cases h2 : t2 = s
    · simp [h2]
    · simp [h2]
  · simp only [h, if_false, Prod.mk.injEq, false_and, decide_false]
    exact (beq_eq_false_iff_ne.2 fun e => hs e.symm).symm
theorem kw6 {w : World} {l : TL} {v : Value} (hT : TokL w w.heap.size v l) {i : Nat} {j : Int} {s : Bytes} {b : Bool} (hq : (kwAt l i == s) = b) (hs : s ≠ []) (hj : j = (i : Int)) :
    Calls Tryz.prog 110 #[v, .int .i64 j, .string (B s)] w fun e w' => e = .returned (.bool b) ∧ Below w.heap.size w w' := by
  subst hj
  rw [← hq, ← is_kw hs]
  exact rkey6 hT i s
set_option maxRecDepth 100000 in
set_option maxHeartbeats 1000000 in
theorem nam6 {w : World} {l : TL} {v : Value} (hT : TokL w w.heap.size v l) {i : Nat} {j : Int} {b : Bool} (hq : nmTok (tkAt l i) = b) (hj : j = (i : Int)) :
    Calls Tryz.prog 112 #[v, .int .i64 j] w fun e w' => e = .returned (.bool b) ∧ Below w.heap.size w w' := by
  subst hj
  obtain ⟨A, c, rfl⟩ := hT.val
  rcases Nat.lt_or_ge i l.length with hlt | hge
  · obtain ⟨_, htl, tb, og, ta, rfl, htb, t0, t1, t2⟩ := hT.at3 i hlt
    have hlt' : (i : Int) < (l.length : Int) := by omega
    by_cases hk : (tkAt l i).1 = 1
    · have q1 : ((tkAt l i).1 == 1) = true := by rw [hk]; rfl
      have hb : S3.nameB (tkAt l i).2 = b := by rw [← hq]; simp [nmTok, hk]
      have C := Lib.hid (fun W => S3.refName_calls (tkAt l i).2 htl W)
      rw [hb] at C
      clear hT hq hb
      go_enter Tryz.func112, Tryz.ntmps112
      try simp only [List.append_eq, List.cons_append, List.nil_append]
      go_wp2_with fail
      refine (C.out _).mono ?_
      rintro e w1 ⟨rfl, hb⟩
      have HB := Lib.hid hb
      clear hb
      go_wp2_with fail
      go_ret
      exact ⟨rfl, HB.out⟩
    · have q1 : ((tkAt l i).1 == 1) = false := beq_eq_false_iff_ne.2 hk
      obtain rfl : b = false := by rw [← hq]; simp [nmTok, hk]
      clear hT hq
      go_enter Tryz.func112, Tryz.ntmps112
      try simp only [List.append_eq, List.cons_append, List.nil_append]
      go_wp2_with fail
      go_ret
      exact ⟨rfl, Below.refl _ _⟩
  · have hge' : ¬ (i : Int) < (l.length : Int) := by omega
    obtain rfl : b = false := by rw [← hq, tk_out hge]; rfl
    clear hT hq
    go_enter Tryz.func112, Tryz.ntmps112
    try simp only [List.append_eq, List.cons_append, List.nil_append]
    go_wp2_with fail
    go_ret
    exact ⟨rfl, Below.refl _ _⟩
set_option maxRecDepth 100000 in
set_option maxHeartbeats 1000000 in
theorem wrong6 (w : World) (j : Int) : Calls Tryz.prog 113 #[.int .i64 j] w fun e w' => e = .returned (.tuple #[S3.sV zS (.slice none 0 0) (.slice none 0 0) (.slice none 0 0), .int .i64 j, .int .i64 7]) ∧ Below w.heap.size w w' := by
  go_enter Tryz.func113, Tryz.ntmps113
  go_wp2_with fail
  exact bodyPost_ret (v := .tuple #[S3.sV zS (.slice none 0 0) (.slice none 0 0) (.slice none 0 0), .int .i64 j, .int .i64 7]) (by simp [results, Tryz.results113, go_sem, zS]) rfl ⟨rfl, S3.bal w _⟩
set_option maxRecDepth 100000 in
set_option maxHeartbeats 2000000 in
theorem ref6_calls {w : World} {l : TL} {v : Value} (hT : TokL w w.heap.size v l) (hll : l.length ≤ 1000000) :
    Calls Tryz.prog 39 #[v] w fun E w' => ∃ A c, E = .returned (.slice A l.length c) ∧ TokL w' w'.heap.size (.slice A l.length c) l ∧ Below w.heap.size w w' := by
  obtain ⟨A, c, rfl, hl, ht⟩ := hT
  have HT := Lib.hid ht
  clear ht
  have H0 := Lib.hid (show S3.GrI kR w.heap.size (l.take 0) (.slice none 0 0) w from S3.GrI.start kR (Nat.le_refl _) (fun _ => 0))
  go_enter Tryz.func39, Tryz.ntmps39
  go_wp2_with fail
  go_loopw [3, 4] (fun x i wr => ∃ k : Nat, k ≤ l.length ∧ i = .int .i64 (k : Int) ∧ Hid (S3.GrI kR w.heap.size (l.take k) x wr) ∧ Hid (Below w.heap.size w wr) ∧ ∃ Ax cx, Hid (x = .slice Ax k cx)) (fun _ i _ => l.length - (intOf i).toNat)
  case atStart => exact ⟨0, by omega, rfl, H0, Lib.hid (Below.refl _ _), none, 0, Lib.hid rfl⟩
  case round =>
    clear H0
    obtain ⟨k, hk, rfl, HG, HB, Ax, cx, HX⟩ := hrel
    by_cases hlt : k < l.length
    · have hlt' : (k : Int) < (l.length : Int) := by omega
      obtain ⟨t, htk⟩ : ∃ t, l[k]? = some t := ⟨_, List.getElem?_eq_getElem hlt⟩
      obtain ⟨hts, b, o, a, hA, hbw, t0, t1, t2⟩ := HT.out k t htk
      subst hA
      have t0 := (HB.out.cell (p := ⟨b, o + k * 3, none⟩) hbw).trans t0
      have t1 := (HB.out.cell (p := ⟨b, o + k * 3 + 1, none⟩) hbw).trans t1
      have t2 := (HB.out.cell (p := ⟨b, o + k * 3 + 2, none⟩) hbw).trans t2
      have hbw2 : b < wr.heap.size := by have := HB.out.size; omega
      have hlen : (l.take k).length = k := by rw [List.length_take, Nat.min_eq_left (Nat.le_of_lt hlt)]
      have htake : l.take (k + 1) = l.take k ++ [t] := by rw [List.take_add_one, htk]; simp
      obtain ⟨g, cap, w8, r8, hG, hB8⟩ := tk_app (t := t) (a := a) HG.out hts (by omega) 68
      rw [hlen] at r8 hG
      rw [← htake] at hG
      have R8 := Lib.hid r8
      have HG8 := Lib.hid hG
      have HB8 := Lib.hid (HB.out.trans hB8)
      clear r8 hG hB8 htake hlen htk HG
      go_wp2_with (at_builtin; refine Lib.wpList_append_run _ rfl _ _ _ _ rfl _ _ rfl rfl _ _ R8.out ?_)
      go_roundw
      case rel => exact ⟨k + 1, by omega, by go_num, HG8, HB8, _, _, Lib.hid rfl⟩
      case measure => simp [intOf]; omega
    · obtain rfl : k = l.length := by omega
      have HTk := Lib.hid (show TokL wr wr.heap.size u3 l by have := tokL_grR HG.out (by rw [List.take_length]; omega); rwa [List.take_length] at this)
      obtain rfl := HX.out
      go_wp2_with fail
      go_ret
      exact ⟨_, _, rfl, HTk.out, HB.out⟩
end Go.Proofs.YtoldhocdfkndbaaGreatDoor.E6

namespace Go.Proofs.YtoldhocdfkndbaaGreatDoor.E6
open Go Go.RowKit Go.Proofs.YtoldhocdfkndbaaGreatDoor Go.Proofs.YtoldhocdfkndbaaGreatDoor.E5

/-- A set of blocks, and all blocks from n on below m. -/
abbrev Rw (R : Nat → Prop) (n m : Nat) (b : Nat) : Prop := R b ∨ (n ≤ b ∧ b < m)
/-- What a part gives to which a statement is handed whose parts lie in R. -/
def PostZ (R : Nat → Prop) (w : World) : RS → Ending → World → Prop
  | .ok s n => fun E w' => ∃ va vb ve, E = .returned (.tuple #[S3.sV s va vb ve, .int .i64 (n : Int), .int .i64 0]) ∧ SIs w' (Rw R w.heap.size w'.heap.size) s va vb ve ∧ Below w.heap.size w w'
  | .bad a c => fun E w' => E = .returned (.tuple #[S3.sV zS (.slice none 0 0) (.slice none 0 0) (.slice none 0 0), .int .i64 (a : Int), .int .i64 c]) ∧ Below w.heap.size w w'
/-- The statement is laid into the result's block. -/
theorem put8_isO {w1 : World} {R R' : Nat → Prop} {q : Nat} {s : St} {va vb ve : Value} (h : SIs w1 R s va vb ve) (hq : ¬ R q) (hR : ∀ b, R b → R' b) (a0 a1 a2 a3 a4 a5 a6 a7 : Value) :
    SIs (put8 w1 q a0 a1 a2 a3 a4 a5 a6 a7) R' s va vb ve :=
  h.keep hR fun x _ hx => World.cell?_of_block (w := w1) (put8_heap w1 q a0 a1 a2 a3 a4 a5 a6 a7 x (fun e => hq (e ▸ hx)))
theorem zfin {w w1 : World} {o o' : Obj} {R R1 : Nat → Prop} (s : St) {va vb ve : Value} (hb : Below ((w.alloc o).alloc o').heap.size ((w.alloc o).alloc o') w1) (hE : SIs w1 R1 s va vb ve) (hq : ¬ R1 (w.heap.size + 1)) (hR : ∀ b, R1 b → Rw R w.heap.size w1.heap.size b) (a0 a1 a2 a3 a4 a5 a6 a7 : Value) :
    SIs (put8 w1 (w.heap.size + 1) a0 a1 a2 a3 a4 a5 a6 a7) (Rw R w.heap.size (put8 w1 (w.heap.size + 1) a0 a1 a2 a3 a4 a5 a6 a7).heap.size) s va vb ve ∧ Below w.heap.size w (put8 w1 (w.heap.size + 1) a0 a1 a2 a3 a4 a5 a6 a7) := by
  have hb2 := after (after (S3.bal w o) (S3.bal _ o')) hb
  exact ⟨put8_isO hE hq (by rw [put8_size]; exact hR) a0 a1 a2 a3 a4 a5 a6 a7, put8_below hb2 (q := w.heap.size + 1) (by omega) a0 a1 a2 a3 a4 a5 a6 a7⟩
theorem zbad {w w1 : World} {o o' : Obj} (hb : Below ((w.alloc o).alloc o').heap.size ((w.alloc o).alloc o') w1) (a0 a1 a2 a3 a4 a5 a6 a7 : Value) :
    Below w.heap.size w (put8 w1 (w.heap.size + 1) a0 a1 a2 a3 a4 a5 a6 a7) :=
  put8_below (after (after (S3.bal w o) (S3.bal _ o')) hb) (q := w.heap.size + 1) (by omega) a0 a1 a2 a3 a4 a5 a6 a7
/-- The box of a statement, and the result's block behind it. -/
theorem box2 (w : World) (a0 a1 a2 a3 a4 a5 a6 a7 : Value) {w1 : World} (hb : Below ((w.alloc (.cells #[a0, a1, a2, a3, a4, a5, a6, a7] 64)).alloc sZ).heap.size ((w.alloc (.cells #[a0, a1, a2, a3, a4, a5, a6, a7] 64)).alloc sZ) w1) :
    w1.heap[w.heap.size]? = some (.cells #[a0, a1, a2, a3, a4, a5, a6, a7] 64 (0, 0)) ∧ R8 w1 (w.heap.size + 1) := by
  have h1 : w.heap.size < (w.alloc (.cells #[a0, a1, a2, a3, a4, a5, a6, a7] 64)).heap.size := by rw [S3.sz1]; omega
  have h2 := after (S3.bal (w.alloc (.cells #[a0, a1, a2, a3, a4, a5, a6, a7] 64)) sZ) hb
  have h3 := (R8.new (w.alloc (.cells #[a0, a1, a2, a3, a4, a5, a6, a7] 64)) (.int .i64 0) (.int .i64 0) (.string ⟨#[]⟩) (.int .i64 0) (.string ⟨#[]⟩) (.slice none 0 0) (.slice none 0 0) (.slice none 0 0)).bel hb
  rw [S3.sz1] at h3
  exact ⟨(h2.block _ h1).trans (heap_alloc_new w _), h3⟩
set_option maxRecDepth 100000 in
set_option maxHeartbeats 4000000 in
theorem ended6 {w : World} {l : TL} {v : Value} (hT : TokL w w.heap.size v l) {R : Nat → Prop} (hR : ∀ b, R b → b < w.heap.size) {s : St} {va vb ve : Value} (hS : SIs w R s va vb ve) (i : Nat) (hi : i ≤ 1000000) :
    Calls Tryz.prog 114 #[S3.sV s va vb ve, v, .int .i64 (i : Int)] w (PostZ R w (endS l s i)) := by
  obtain ⟨Aa, ca, rfl⟩ := hS.a.slice
  obtain ⟨Ab, cb, rfl⟩ := hS.b.slice
  obtain ⟨Ae, ce, rfl⟩ := hS.e.slice
  have HT := Lib.hid (fun o o' => tokU (tokU hT (S3.bal w o)) (S3.bal _ o'))
  have HS := Lib.hid hS
  obtain ⟨TA, Tc, rfl⟩ := hT.val
  clear hT hS
  unfold endS
  by_cases hs : sgAt l i = [59]
  · rw [if_pos hs]
    have C := Lib.hid (fun o o' => sgn6 (HT.out o o') (i := i) (j := (i : Int)) (s := [59]) (b := true) (by rw [hs]; rfl) (by simp) rfl)
    clear HT
    go_enter Tryz.func114, Tryz.ntmps114
    go_wp2_with fail
    refine (C.out _ _).mono ?_
    rintro E w1 ⟨rfl, hb⟩
    obtain ⟨h8, hQ⟩ := box2 w _ _ _ _ _ _ _ _ hb
    obtain ⟨k0, k1, k2, k3, k4, k5, k6, k7⟩ := row8_facts h8
    have hq1 := hQ.lt
    have hp1 : w.heap.size < w1.heap.size := by omega
    obtain ⟨z0, z1, z2, z3, z4, z5, z6, z7, r0, r1, r2, r3, r4, r5, r6, r7, y0, y1, y2, y3, y4, y5, y6, y7⟩ := hQ.facts
    have hb2 := after (after (S3.bal w _) (S3.bal _ _)) hb
    have HB := Lib.hid (zfin (R := R) s hb (HS.out.keep (fun _ h => h) fun b j h => hb2.cell (p := ⟨b, j, none⟩) (hR b h)) (fun h => by have := hR _ h; omega) (fun _ h => .inl h) (.int .i64 s.kind) (.int .i64 s.no) (.string (S3.B s.name)) (.int .i64 s.typ) (.string (S3.B s.callee)) (.slice Aa s.args.length ca) (.slice Ab s.body.length cb) (.slice Ae s.els.length ce))
    clear hb hb2 C h8 hQ
    have hn := IntWalk.i64_in ((i : Int) + 1) (by omega)
    go_wp2_with fail
    exact bodyPost_ret (v := .tuple #[(S3.sV s (.slice Aa s.args.length ca) (.slice Ab s.body.length cb) (.slice Ae s.els.length ce)), .int .i64 ((i + 1 : Nat) : Int), .int .i64 0]) (by simp [results, Tryz.results114, go_sem, r0, r1, r2, r3, r4, r5, r6, r7]) rfl ⟨_, _, _, rfl, HB.out.1, HB.out.2⟩
  · rw [if_neg hs]
    have C := Lib.hid (fun o o' => sgn6 (HT.out o o') (i := i) (j := (i : Int)) (s := [59]) (b := false) (beq_eq_false_iff_ne.2 hs) (by simp) rfl)
    clear HT
    go_enter Tryz.func114, Tryz.ntmps114
    go_wp2_with fail
    refine (C.out _ _).mono ?_
    rintro E w1 ⟨rfl, hb⟩
    have HB1 := Lib.hid hb
    clear hb
    go_wp2_with fail
    refine (wrong6 _ _).mono ?_
    rintro E w2 ⟨rfl, hb2⟩
    have hb := after HB1.out hb2
    obtain ⟨h8, hQ⟩ := box2 w _ _ _ _ _ _ _ _ hb
    have hq1 := hQ.lt
    obtain ⟨z0, z1, z2, z3, z4, z5, z6, z7, r0, r1, r2, r3, r4, r5, r6, r7, y0, y1, y2, y3, y4, y5, y6, y7⟩ := hQ.facts
    have HB := Lib.hid (zbad hb (.int .i64 0) (.int .i64 0) (.string ⟨#[]⟩) (.int .i64 0) (.string ⟨#[]⟩) (.slice none 0 0) (.slice none 0 0) (.slice none 0 0))
    clear hb hb2 HB1 C h8 hQ
    go_wp2_with fail
    exact bodyPost_ret (v := .tuple #[S3.sV zS (.slice none 0 0) (.slice none 0 0) (.slice none 0 0), .int .i64 (i : Int), .int .i64 7]) (by simp [results, Tryz.results114, go_sem, zS, r0, r1, r2, r3, r4, r5, r6, r7]) rfl ⟨rfl, HB.out⟩
/-- An expression put behind these arguments lies in a new row. -/
def Push (w : World) (R : Nat → Prop) (acc : List Ex) (va : Value) : Prop :=
  ∀ (W : World), Below w.heap.size w W → ∀ (e : Ex) (A : Option Addr) (k c m : Nat), S3.OkE e → m ≤ W.heap.size → w.heap.size ≤ m → S3.ER W (Rn m W.heap.size) e.args (.slice A k c) →
    ∃ g cap w8, (Builtin.append_ #[30, 30] 30 #[va, .slice (some ⟨W.heap.size, 0, none⟩) 1 1]).run Tryz.prog (W.alloc (S3.eO e (.slice A k c))) = .ok (.slice (some ⟨g, 0, none⟩) (acc.length + 1) cap) w8 ∧
      S3.ER w8 (Rw R m w8.heap.size) (acc ++ [e]) (.slice (some ⟨g, 0, none⟩) (acc.length + 1) cap) ∧ Below W.heap.size W w8
theorem push_fin {W w8 : World} {R' R2 : Nat → Prop} {acc : List Ex} {e : Ex} {V : Nat → Value} {o : Obj} {v' : Value} (hown : w8.ownsRow (W.alloc o).heap.size 32 5 v' (acc.length + 1) (S3.rowsE (acc ++ [e]) V).flatten) (hg : (W.alloc o).grownBy w8 none)
    (hs : ∀ (i : Nat) x, (acc ++ [e])[i]? = some x → S3.OkE x ∧ S3.ER W R' x.args (V i)) (hR : ∀ b, R' b → b < W.heap.size) (hl : acc.length ≤ 1000000) (h2 : ∀ b, R' b → R2 b) (h3 : ∀ b, W.heap.size ≤ b → b < w8.heap.size → R2 b) :
    ∃ g cap, v' = .slice (some ⟨g, 0, none⟩) (acc.length + 1) cap ∧ S3.ER w8 R2 (acc ++ [e]) (.slice (some ⟨g, 0, none⟩) (acc.length + 1) cap) ∧ Below W.heap.size W w8 := by
  have hlen : (S3.rowsE (acc ++ [e]) V).length = acc.length + 1 := by rw [S3.rowsE_len, List.length_append]; rfl
  have h' : w8.ownsRow (W.alloc o).heap.size 32 5 v' (S3.rowsE (acc ++ [e]) V).length (S3.rowsE (acc ++ [e]) V).flatten := by rw [hlen]; exact hown
  obtain ⟨g, cap, hv, hg0, hr⟩ := S3.RowAt.of_own h' (S3.rowsE_sz _ _) (by rw [hlen]; omega)
  have hB : Below W.heap.size W w8 := (S3.bal W o).grown hg (by rw [S3.sz1]; omega) (by intro k hk; cases hk)
  rw [hlen] at hv
  have hE := S3.ER.of_row hr (R := R2) (h3 g (by rw [S3.sz1] at hg0; omega) hr.lt) (by rw [List.length_append]; simp; omega) (fun i x hx => (hs i x hx).1) (fun i x hx => (hs i x hx).2.keep h2 fun b j h => hB.cell (p := ⟨b, j, none⟩) (hR b h))
  rw [List.length_append] at hE
  exact ⟨g, cap, hv, hE, hB⟩
theorem push_nil (w : World) (R : Nat → Prop) : Push w R [] (.slice none 0 0) := by
  intro W hb e A k c m ho hm hw hE
  obtain ⟨i0, hi0, hz0, hz1, hz2⟩ := info_parts S3.infoE
  obtain ⟨v', w', hrun, h2, h3, _, _⟩ := run_append_own_at (P := Tryz.prog) (W.alloc (S3.eO e (.slice A k c))) (W.alloc (S3.eO e (.slice A k c))).heap.size 30 30 32 i0 _ 5 64 Tryz.underlying30 hi0 hz0 hz1 hz2 rfl (by decide) (.slice none 0 0) 0 [] (World.ownsRow_nil _ _ _ _) ⟨W.heap.size, 0, none⟩ 1 1 (S3.eC e (.slice A k c)) rfl
    (fun j u hu => by rw [add_plain, Nat.zero_add]; exact S3.newCell W _ 32 j u (by rw [List.getElem?_toArray]; exact hu)) (by intro u hu; simp [S3.eC] at hu; rcases hu with rfl | rfl | rfl | rfl | rfl <;> rfl) (by unfold maxLen; omega) (by omega) (Nat.le_refl _)
  obtain ⟨g, cap, rfl, h4, h5⟩ := push_fin (W := W) (acc := []) (e := e) (V := fun _ => .slice A k c) (R' := Rn m W.heap.size) (R2 := Rw R m w'.heap.size) (by simpa [S3.rowsE] using h2) h3 (fun i x hx => by
    cases i with
    | zero => simp at hx; subst hx; exact ⟨ho, hE⟩
    | succ i => simp at hx) (fun b h => h.2) (by simp) (fun b h => .inr ⟨h.1, by have := h3.size; rw [S3.sz1] at this; have := h.2; omega⟩) (fun b h1 h2 => .inr ⟨by omega, h2⟩)
  exact ⟨g, cap, w', hrun, h4, h5⟩
theorem push_one {w : World} {R : Nat → Prop} {e0 : Ex} {b0 : Addr} (h0 : S3.ER w R [e0] (.slice (some b0) 1 1)) (hR : ∀ b, R b → b < w.heap.size) : Push w R [e0] (.slice (some b0) 1 1) := by
  intro W hb e A k c m ho hm hw hE
  obtain ⟨i0, hi0, hz0, hz1, hz2⟩ := info_parts S3.infoE
  obtain ⟨V, hV⟩ := h0.cells
  obtain ⟨ho0, hE0, b, q, hbq, hRb, hC⟩ := hV 0 e0 rfl
  obtain rfl := Option.some.inj hbq
  rw [Nat.zero_mul, Nat.add_zero] at hC
  have hbW := after hb (S3.bal W (S3.eO e (.slice A k c)))
  have cc := fun j => hbW.cell (p := ⟨b, j, none⟩) (hR b hRb)
  have hC' := hC.keep (w' := W.alloc (S3.eO e (.slice A k c))) cc
  have hsz : (W.alloc (S3.eO e (.slice A k c))).heap.size = W.heap.size + 1 := S3.sz1 _ _
  obtain ⟨v', w', hrun, h2, h3⟩ := run_append_arg_grows (P := Tryz.prog) (W.alloc (S3.eO e (.slice A k c))) 30 30 32 i0 _ 5 64 Tryz.underlying30 hi0 hz0 hz1 hz2 rfl (by decide) ⟨b, q, none⟩ 1 1 (S3.eC e0 (V 0)) rfl
    (fun j u hu => by
      rw [add_plain]
      rcases j with _ | _ | _ | _ | _ | j
      · simp [S3.eC] at hu; subst hu; exact hC'.c0
      · simp [S3.eC] at hu; subst hu; exact hC'.c1
      · simp [S3.eC] at hu; subst hu; exact hC'.c2
      · simp [S3.eC] at hu; subst hu; exact hC'.c3
      · simp [S3.eC] at hu; subst hu; exact hC'.c4
      · simp [S3.eC] at hu) ⟨W.heap.size, 0, none⟩ 1 1 (S3.eC e (.slice A k c)) rfl
    (fun j u hu => by rw [add_plain, Nat.zero_add]; exact S3.newCell W _ 32 j u (by rw [List.getElem?_toArray]; exact hu)) (by omega) (by unfold maxLen; omega) (by omega)
  obtain ⟨g, cap, rfl, h4, h5⟩ := push_fin (W := W) (acc := [e0]) (e := e) (V := fun j => if j = 0 then V 0 else .slice A k c) (R' := Rw R m W.heap.size) (R2 := Rw R m w'.heap.size) (by simpa [S3.rowsE] using h2) h3 (fun i x hx => by
    rcases i with _ | _ | i
    · simp at hx; subst hx; exact ⟨ho0, hE0.keep (fun _ h => .inl h) fun b j h => hb.cell (p := ⟨b, j, none⟩) (hR b h)⟩
    · simp at hx; subst hx; exact ⟨ho, hE.keep (fun _ h => .inr h) fun _ _ _ => rfl⟩
    · simp at hx) (fun b h => by rcases h with h | h
                                 · exact Nat.lt_of_lt_of_le (hR b h) hb.size
                                 · exact h.2) (by simp) (fun b h => by rcases h with h | h
                                                                       · exact .inl h
                                                                       · exact .inr ⟨h.1, by have := h3.size; rw [hsz] at this; have := h.2; omega⟩) (fun b h1 h2 => .inr ⟨by omega, h2⟩)
  exact ⟨g, cap, w', hrun, h4, h5⟩
end Go.Proofs.YtoldhocdfkndbaaGreatDoor.E6

namespace Go.Proofs.YtoldhocdfkndbaaGreatDoor.E6
open Go Go.RowKit Go.Proofs.YtoldhocdfkndbaaGreatDoor Go.Proofs.YtoldhocdfkndbaaGreatDoor.E5

theorem R8.set {w : World} {q : Nat} (h : R8 w q) {p : Addr} (hp : p.block ≠ q) (u : Value) : R8 (w.setCell p u) q := by
  obtain ⟨_, _, _, _, _, _, _, _, h⟩ := h
  exact ⟨_, _, _, _, _, _, _, _, (Below.heap_setCell _ _ _ _ (Ne.symm hp)).trans h⟩
theorem zfin2 {w w1 : World} {R R1 : Nat → Prop} (s : St) {va vb ve : Value} (hb : Below w.heap.size w w1) (hE : SIs w1 R1 s va vb ve) (hq : ¬ R1 (w.heap.size + 1)) (hR : ∀ b, R1 b → Rw R w.heap.size w1.heap.size b) (a0 a1 a2 a3 a4 a5 a6 a7 : Value) :
    SIs (put8 w1 (w.heap.size + 1) a0 a1 a2 a3 a4 a5 a6 a7) (Rw R w.heap.size (put8 w1 (w.heap.size + 1) a0 a1 a2 a3 a4 a5 a6 a7).heap.size) s va vb ve ∧ Below w.heap.size w (put8 w1 (w.heap.size + 1) a0 a1 a2 a3 a4 a5 a6 a7) :=
  ⟨put8_isO hE hq (by rw [put8_size]; exact hR) a0 a1 a2 a3 a4 a5 a6 a7, put8_below hb (q := w.heap.size + 1) (by omega) a0 a1 a2 a3 a4 a5 a6 a7⟩
theorem froz5 {w : World} {q : Nat} {a0 a1 a2 a3 a4 a5 a6 a7 : Value} (h : w.heap[q]? = some (.cells #[a0, a1, a2, a3, a4, a5, a6, a7] 64 (0, 0))) : w.frozen? ⟨q, 5, none⟩ = false := by
  unfold World.frozen?; rw [h]; rfl
theorem rw_ne {R : Nat → Prop} {n m b q : Nat} (hR : ∀ b, R b → b < n) (h : Rw R (n + 1 + 1) m b) (hq : q = n ∨ q = n + 1) : b ≠ q := by
  rcases h with h | h
  · have := hR b h; omega
  · omega
theorem rw_lt {R : Nat → Prop} {n m b k : Nat} (hR : ∀ b, R b → b < n) (h : Rw R k m b) (hn : n ≤ m) : b < m := by
  rcases h with h | h
  · have := hR b h; omega
  · exact h.2
set_option maxRecDepth 100000 in
set_option maxHeartbeats 8000000 in
theorem valued6 {w : World} {l : TL} {v : Value} (hT : TokL w w.heap.size v l) (hll : l.length ≤ 1000000) {R : Nat → Prop} (hR : ∀ b, R b → b < w.heap.size) {s : St} {va vb ve : Value} (hS : SIs w R s va vb ve) (hP : Push w R s.args va) (i : Nat) (hi : i ≤ l.length) (mk : Ex → St) (hmk : ∀ e, mk e = { s with args := s.args ++ [e] }) :
    Calls Tryz.prog 115 #[S3.sV s va vb ve, v, .int .i64 (i : Int)] w (PostZ R w (valS l mk i)) := by
  obtain ⟨Aa, ca, rfl⟩ := hS.a.slice
  obtain ⟨Ab, cb, rfl⟩ := hS.b.slice
  obtain ⟨Ae, ce, rfl⟩ := hS.e.slice
  have HT := Lib.hid (fun o o' => tokU (tokU hT (S3.bal w o)) (S3.bal _ o'))
  have HT0 := Lib.hid hT
  have HS := Lib.hid hS
  have HP := Lib.hid hP
  have C := Lib.hid (fun o o' => rparse_calls (HT.out o o') hll i 0 hi (by omega))
  obtain ⟨TA, Tc, rfl⟩ := hT.val
  have hwin := parseR_within l i 0 hi
  have hcd : E5.Res.cd (parseR l i 0) := by rw [parseR_is]; exact E5.cd_bin l i 0 1
  unfold valS
  simp only [hmk]
  clear hT hS hP HT hmk
  cases hr : parseR l i 0 with
  | bad j c =>
    rw [hr] at C hcd
    have hq' : (c == 0) = false := beq_eq_false_iff_ne.2 hcd
    clear hr hwin HP HS HT0
    go_enter Tryz.func115, Tryz.ntmps115
    go_wp2_with fail
    refine (C.out _ _).mono ?_
    rintro E w1 ⟨rfl, hb0⟩
    have hb := after hb0 (S3.bal w1 (S3.eO zE (.slice none 0 0)))
    obtain ⟨h8, hQ⟩ := box2 w _ _ _ _ _ _ _ _ hb
    have hq1 := hQ.lt
    obtain ⟨z0, z1, z2, z3, z4, z5, z6, z7, r0, r1, r2, r3, r4, r5, r6, r7, y0, y1, y2, y3, y4, y5, y6, y7⟩ := hQ.facts
    have HB := Lib.hid (zbad hb (.int .i64 0) (.int .i64 0) (.string ⟨#[]⟩) (.int .i64 0) (.string ⟨#[]⟩) (.slice none 0 0) (.slice none 0 0) (.slice none 0 0))
    clear hb hb0 C h8 hQ
    go_wp2_with fail
    exact bodyPost_ret (v := .tuple #[S3.sV zS (.slice none 0 0) (.slice none 0 0) (.slice none 0 0), .int .i64 (j : Int), .int .i64 c]) (by simp [results, Tryz.results115, go_sem, zS, r0, r1, r2, r3, r4, r5, r6, r7]) rfl ⟨rfl, HB.out⟩
  | ok e n =>
    rw [hr] at C hwin
    simp only [Res.within] at hwin
    clear hr hcd
    go_enter Tryz.func115, Tryz.ntmps115
    go_wp2_with fail
    refine (C.out _ _).mono ?_
    rintro E w1 ⟨A, k, c, rfl, ho, hE, hb0⟩
    have b1 := S3.bal w1 (S3.eO e (.slice A k c))
    have hb := after hb0 b1
    have hbw := after (after (S3.bal w _) (S3.bal _ _)) hb
    have hEw := er_bel hE b1
    have hsz := hb.size
    rw [S3.sz1, S3.sz1] at hEw hsz
    obtain ⟨g, cap, w8, r8, hE8, hB8⟩ := HP.out _ hbw e A k c _ ho (by exact hsz) (by omega) hEw
    have hb8 := after hb hB8
    have hbw8 := after hbw hB8
    obtain ⟨h8, hQ⟩ := box2 w _ _ _ _ _ _ _ _ hb8
    obtain ⟨k0, k1, k2, k3, k4, k5, k6, k7⟩ := row8_facts h8
    have x5 := froz5 h8
    have g5 := (row8_facts (box2 w _ _ _ _ _ _ _ _ hb0).1).2.2.2.2.2.1
    have hp0 : w.heap.size < w1.heap.size := by have := hb0.size; rw [S3.sz1, S3.sz1] at this; omega
    have hq1 := hQ.lt
    have hp1 : w.heap.size < w8.heap.size := by omega
    have hE9 := hE8.keep (w' := w8.setCell ⟨w.heap.size, 5, none⟩ (.slice (some ⟨g, 0, none⟩) (s.args.length + 1) cap)) (fun _ h => h) (fun b j h => World.cell?_of_block (w := w8) (Below.heap_setCell _ _ _ b (rw_ne hR h (.inl rfl))))
    have hbw9 : Below w.heap.size w (w8.setCell ⟨w.heap.size, 5, none⟩ (.slice (some ⟨g, 0, none⟩) (s.args.length + 1) cap)) := hbw8.setCell (p := ⟨w.heap.size, 5, none⟩) (Nat.le_refl _) _
    have hlen : (s.args ++ [e]).length = s.args.length + 1 := by simp
    have hS9 : SIs (w8.setCell ⟨w.heap.size, 5, none⟩ (.slice (some ⟨g, 0, none⟩) (s.args.length + 1) cap)) (Rw R (w.heap.size + 1 + 1) w8.heap.size) { s with args := s.args ++ [e] } (.slice (some ⟨g, 0, none⟩) (s.args.length + 1) cap) (.slice Ab s.body.length cb) (.slice Ae s.els.length ce) := by
      exact ⟨⟨HS.out.ok.kind, HS.out.ok.no, HS.out.ok.typ, HS.out.ok.name, HS.out.ok.callee⟩, hE9, HS.out.b.keep (fun _ h => .inl h) (fun b j h => hbw9.cell (p := ⟨b, j, none⟩) (hR b h)), HS.out.e.keep (fun _ h => .inl h) (fun b j h => hbw9.cell (p := ⟨b, j, none⟩) (hR b h))⟩
    have hz9 : (w8.setCell ⟨w.heap.size, 5, none⟩ (.slice (some ⟨g, 0, none⟩) (s.args.length + 1) cap)).heap.size = w8.heap.size := by simp [World.setCell]
    have D := Lib.hid (ended6 (tokU HT0.out hbw9) (R := Rw R (w.heap.size + 1 + 1) w8.heap.size) (fun b h => by rw [hz9]; exact rw_lt hR h (by omega)) hS9 n (by omega))
    have HQ := Lib.hid (hQ.set (p := ⟨w.heap.size, 5, none⟩) (by show w.heap.size ≠ _; omega) (.slice (some ⟨g, 0, none⟩) (s.args.length + 1) cap))
    have HB9 := Lib.hid hbw9
    rw [S3.sz1] at r8
    have R8' := Lib.hid r8
    have HR := Lib.hid hR
    have HZ := Lib.hid hz9
    clear HS hR hlen hz9 hwin hsz
    clear hb hb0 b1 hbw hEw r8 hE8 hB8 hE ho hE9 hS9 hbw9 hb8 hbw8 h8 hQ C HP HT0
    go_wp2_with (at_builtin; refine Lib.wpList_append_run _ rfl _ _ _ _ rfl _ _ rfl rfl _ _ R8'.out ?_)
    refine D.out.mono ?_
    intro E w10 hP
    cases hr : endS l { s with args := s.args ++ [e] } n with
    | bad j c' =>
      rw [hr] at hP
      obtain ⟨rfl, hb⟩ := hP
      have hQ := HQ.out.bel hb
      have hq2 := hQ.lt
      obtain ⟨z0, z1, z2, z3, z4, z5, z6, z7, r0, r1, r2, r3, r4, r5, r6, r7, y0, y1, y2, y3, y4, y5, y6, y7⟩ := hQ.facts
      have HB := Lib.hid (put8_below (after HB9.out hb) (q := w.heap.size + 1) (by omega) (.int .i64 0) (.int .i64 0) (.string ⟨#[]⟩) (.int .i64 0) (.string ⟨#[]⟩) (.slice none 0 0) (.slice none 0 0) (.slice none 0 0))
      have Hr := Lib.hid hr
      clear hb hQ hr HQ D HB9 HR HZ k0 k1 k2 k3 k4 k5 k6 k7 x5 g5
      go_wp2_with fail
      exact bodyPost_ret (v := .tuple #[S3.sV zS (.slice none 0 0) (.slice none 0 0) (.slice none 0 0), .int .i64 (j : Int), .int .i64 c']) (by simp [results, Tryz.results115, go_sem, zS, r0, r1, r2, r3, r4, r5, r6, r7]) rfl (by rw [Hr.out]; exact ⟨rfl, HB.out⟩)
    | ok s2 m =>
      rw [hr] at hP
      obtain ⟨va2, vb2, ve2, rfl, hS2, hb⟩ := hP
      obtain ⟨Aa2, ca2, rfl⟩ := hS2.a.slice
      obtain ⟨Ab2, cb2, rfl⟩ := hS2.b.slice
      obtain ⟨Ae2, ce2, rfl⟩ := hS2.e.slice
      have hQ := HQ.out.bel hb
      have hq2 := hQ.lt
      have hz9 := HZ.out
      have hz10 := hb.size
      obtain ⟨z0, z1, z2, z3, z4, z5, z6, z7, r0, r1, r2, r3, r4, r5, r6, r7, y0, y1, y2, y3, y4, y5, y6, y7⟩ := hQ.facts
      have HB := Lib.hid (zfin2 (R := R) s2 (after HB9.out hb) hS2 (by
        intro h
        rcases h with h | h
        · exact rw_ne HR.out h (.inr rfl) rfl
        · omega) (by
        intro b h
        rcases h with h | h
        · rcases h with h | h
          · exact .inl h
          · exact .inr ⟨by omega, by omega⟩
        · exact .inr ⟨by omega, by omega⟩) (.int .i64 s2.kind) (.int .i64 s2.no) (.string (S3.B s2.name)) (.int .i64 s2.typ) (.string (S3.B s2.callee)) (.slice Aa2 s2.args.length ca2) (.slice Ab2 s2.body.length cb2) (.slice Ae2 s2.els.length ce2))
      have Hr := Lib.hid hr
      clear hb hQ hr HQ D HB9 HR HZ k0 k1 k2 k3 k4 k5 k6 k7 x5 g5 hS2 hz9 hz10
      go_wp2_with fail
      exact bodyPost_ret (v := .tuple #[(S3.sV s2 (.slice Aa2 s2.args.length ca2) (.slice Ab2 s2.body.length cb2) (.slice Ae2 s2.els.length ce2)), .int .i64 (m : Int), .int .i64 0]) (by simp [results, Tryz.results115, go_sem, r0, r1, r2, r3, r4, r5, r6, r7]) rfl (by rw [Hr.out]; exact ⟨_, _, _, rfl, HB.out.1, HB.out.2⟩)
end Go.Proofs.YtoldhocdfkndbaaGreatDoor.E6

namespace Go.Proofs.YtoldhocdfkndbaaGreatDoor.E6
open Go Go.RowKit Go.Proofs.YtoldhocdfkndbaaGreatDoor Go.Proofs.YtoldhocdfkndbaaGreatDoor.E5

theorem froz0 {w : World} {q : Nat} {a0 a1 a2 a3 a4 a5 a6 a7 : Value} (h : w.heap[q]? = some (.cells #[a0, a1, a2, a3, a4, a5, a6, a7] 64 (0, 0))) : w.frozen? ⟨q, 0, none⟩ = false := by
  unfold World.frozen?; rw [h]; rfl
set_option maxRecDepth 100000 in
set_option maxHeartbeats 8000000 in
theorem called6 {w : World} {l : TL} {v : Value} (hT : TokL w w.heap.size v l) (hll : l.length ≤ 1000000) {R : Nat → Prop} (hR : ∀ b, R b → b < w.heap.size) {s : St} {va vb ve : Value} (hS : SIs w R s va vb ve) (i : Nat) (hi : i ≤ l.length) (mk : List Ex → St) (hmk : ∀ es, mk es = { s with kind := 7, args := es }) :
    Calls Tryz.prog 166 #[S3.sV s va vb ve, v, .int .i64 (i : Int)] w (PostZ R w (argS l mk i)) := by
  obtain ⟨Aa, ca, rfl⟩ := hS.a.slice
  obtain ⟨Ab, cb, rfl⟩ := hS.b.slice
  obtain ⟨Ae, ce, rfl⟩ := hS.e.slice
  have HT := Lib.hid (fun o o' => tokU (tokU hT (S3.bal w o)) (S3.bal _ o'))
  have HT0 := Lib.hid hT
  have HS := Lib.hid hS
  have C := Lib.hid (fun o o' => rlst_calls (HT.out o o') hll i 0 hi (by omega))
  obtain ⟨TA, Tc, rfl⟩ := hT.val
  have hwin := listR_within l i 0 hi
  unfold argS
  simp only [hmk]
  clear hT hS HT hmk
  cases hr : listR l i 0 with
  | bad j c =>
    rw [hr] at C
    have hq' : (c == 0) = false := beq_eq_false_iff_ne.2 (by rcases list_code hr with h | h <;> omega)
    clear hr hwin HS HT0
    go_enter Tryz.func166, Tryz.ntmps166
    go_wp2_with fail
    refine (C.out _ _).mono ?_
    rintro E w1 ⟨rfl, hb⟩
    obtain ⟨h8, hQ⟩ := box2 w _ _ _ _ _ _ _ _ hb
    have hq1 := hQ.lt
    obtain ⟨z0, z1, z2, z3, z4, z5, z6, z7, r0, r1, r2, r3, r4, r5, r6, r7, y0, y1, y2, y3, y4, y5, y6, y7⟩ := hQ.facts
    have HB := Lib.hid (zbad hb (.int .i64 0) (.int .i64 0) (.string ⟨#[]⟩) (.int .i64 0) (.string ⟨#[]⟩) (.slice none 0 0) (.slice none 0 0) (.slice none 0 0))
    clear hb C h8 hQ
    go_wp2_with fail
    exact bodyPost_ret (v := .tuple #[S3.sV zS (.slice none 0 0) (.slice none 0 0) (.slice none 0 0), .int .i64 (j : Int), .int .i64 c]) (by simp [results, Tryz.results166, go_sem, zS, r0, r1, r2, r3, r4, r5, r6, r7]) rfl ⟨rfl, HB.out⟩
  | ok es n =>
    rw [hr] at C hwin
    simp only [ResL.within] at hwin
    clear hr
    go_enter Tryz.func166, Tryz.ntmps166
    go_wp2_with fail
    refine (C.out _ _).mono ?_
    rintro E w8 ⟨A, c, rfl, hE8, hb8⟩
    have hbw8 := after (after (S3.bal w _) (S3.bal _ _)) hb8
    have hsz := hb8.size
    rw [S3.sz1, S3.sz1] at hE8 hsz
    obtain ⟨h8, hQ⟩ := box2 w _ _ _ _ _ _ _ _ hb8
    obtain ⟨k0, k1, k2, k3, k4, k5, k6, k7⟩ := row8_facts h8
    have x0 := froz0 h8
    have x5 := froz5 h8
    have hq1 := hQ.lt
    have hp1 : w.heap.size < w8.heap.size := by omega
    have hE9 := hE8.keep (w' := (w8.setCell ⟨w.heap.size, 0, none⟩ (.int .i64 7)).setCell ⟨w.heap.size, 5, none⟩ (.slice A es.length c)) (R' := Rw R (w.heap.size + 1 + 1) w8.heap.size) (fun _ h => .inr h) (fun b j h => World.cell?_of_block (w := w8) ((Below.heap_setCell _ _ _ b (by have := h.1; show b ≠ w.heap.size; omega)).trans (Below.heap_setCell _ _ _ b (by have := h.1; show b ≠ w.heap.size; omega))))
    have hbw9 : Below w.heap.size w ((w8.setCell ⟨w.heap.size, 0, none⟩ (.int .i64 7)).setCell ⟨w.heap.size, 5, none⟩ (.slice A es.length c)) := (hbw8.setCell (p := ⟨w.heap.size, 0, none⟩) (Nat.le_refl _) _).setCell (p := ⟨w.heap.size, 5, none⟩) (Nat.le_refl _) _
    have hS9 : SIs ((w8.setCell ⟨w.heap.size, 0, none⟩ (.int .i64 7)).setCell ⟨w.heap.size, 5, none⟩ (.slice A es.length c)) (Rw R (w.heap.size + 1 + 1) w8.heap.size) { s with kind := 7, args := es } (.slice A es.length c) (.slice Ab s.body.length cb) (.slice Ae s.els.length ce) := by
      exact ⟨⟨show S3.okI 7 by unfold S3.okI; omega, HS.out.ok.no, HS.out.ok.typ, HS.out.ok.name, HS.out.ok.callee⟩, hE9, HS.out.b.keep (fun _ h => .inl h) (fun b j h => hbw9.cell (p := ⟨b, j, none⟩) (hR b h)), HS.out.e.keep (fun _ h => .inl h) (fun b j h => hbw9.cell (p := ⟨b, j, none⟩) (hR b h))⟩
    have hz9 : ((w8.setCell ⟨w.heap.size, 0, none⟩ (.int .i64 7)).setCell ⟨w.heap.size, 5, none⟩ (.slice A es.length c)).heap.size = w8.heap.size := by simp [World.setCell]
    have D := Lib.hid (ended6 (tokU HT0.out hbw9) (R := Rw R (w.heap.size + 1 + 1) w8.heap.size) (fun b h => by rw [hz9]; exact rw_lt hR h (by omega)) hS9 n (by omega))
    have HQ := Lib.hid ((hQ.set (p := ⟨w.heap.size, 0, none⟩) (by show w.heap.size ≠ _; omega) (.int .i64 7)).set (p := ⟨w.heap.size, 5, none⟩) (by show w.heap.size ≠ _; omega) (.slice A es.length c))
    have HB9 := Lib.hid hbw9
    have HR := Lib.hid hR
    have HZ := Lib.hid hz9
    clear HS hR hz9 hwin hsz hE8 hE9 hS9 hbw9 hb8 hbw8 h8 hQ C HT0
    go_wp2_with fail
    refine D.out.mono ?_
    intro E w10 hP
    cases hr : endS l { s with kind := 7, args := es } n with
    | bad j c' =>
      rw [hr] at hP
      obtain ⟨rfl, hb⟩ := hP
      have hQ := HQ.out.bel hb
      have hq2 := hQ.lt
      obtain ⟨z0, z1, z2, z3, z4, z5, z6, z7, r0, r1, r2, r3, r4, r5, r6, r7, y0, y1, y2, y3, y4, y5, y6, y7⟩ := hQ.facts
      have HB := Lib.hid (put8_below (after HB9.out hb) (q := w.heap.size + 1) (by omega) (.int .i64 0) (.int .i64 0) (.string ⟨#[]⟩) (.int .i64 0) (.string ⟨#[]⟩) (.slice none 0 0) (.slice none 0 0) (.slice none 0 0))
      have Hr := Lib.hid hr
      clear hb hQ hr HQ D HB9 HR HZ k0 k1 k2 k3 k4 k5 k6 k7 x0 x5
      go_wp2_with fail
      exact bodyPost_ret (v := .tuple #[S3.sV zS (.slice none 0 0) (.slice none 0 0) (.slice none 0 0), .int .i64 (j : Int), .int .i64 c']) (by simp [results, Tryz.results166, go_sem, zS, r0, r1, r2, r3, r4, r5, r6, r7]) rfl (by rw [Hr.out]; exact ⟨rfl, HB.out⟩)
    | ok s2 m =>
      rw [hr] at hP
      obtain ⟨va2, vb2, ve2, rfl, hS2, hb⟩ := hP
      obtain ⟨Aa2, ca2, rfl⟩ := hS2.a.slice
      obtain ⟨Ab2, cb2, rfl⟩ := hS2.b.slice
      obtain ⟨Ae2, ce2, rfl⟩ := hS2.e.slice
      have hQ := HQ.out.bel hb
      have hq2 := hQ.lt
      have hz9 := HZ.out
      have hz10 := hb.size
      obtain ⟨z0, z1, z2, z3, z4, z5, z6, z7, r0, r1, r2, r3, r4, r5, r6, r7, y0, y1, y2, y3, y4, y5, y6, y7⟩ := hQ.facts
      have HB := Lib.hid (zfin2 (R := R) s2 (after HB9.out hb) hS2 (by
        intro h
        rcases h with h | h
        · exact rw_ne HR.out h (.inr rfl) rfl
        · omega) (by
        intro b h
        rcases h with h | h
        · rcases h with h | h
          · exact .inl h
          · exact .inr ⟨by omega, by omega⟩
        · exact .inr ⟨by omega, by omega⟩) (.int .i64 s2.kind) (.int .i64 s2.no) (.string (S3.B s2.name)) (.int .i64 s2.typ) (.string (S3.B s2.callee)) (.slice Aa2 s2.args.length ca2) (.slice Ab2 s2.body.length cb2) (.slice Ae2 s2.els.length ce2))
      have Hr := Lib.hid hr
      clear hb hQ hr HQ D HB9 HR HZ k0 k1 k2 k3 k4 k5 k6 k7 x0 x5 hS2 hz9 hz10
      go_wp2_with fail
      exact bodyPost_ret (v := .tuple #[(S3.sV s2 (.slice Aa2 s2.args.length ca2) (.slice Ab2 s2.body.length cb2) (.slice Ae2 s2.els.length ce2)), .int .i64 (m : Int), .int .i64 0]) (by simp [results, Tryz.results166, go_sem, r0, r1, r2, r3, r4, r5, r6, r7]) rfl (by rw [Hr.out]; exact ⟨_, _, _, rfl, HB.out.1, HB.out.2⟩)
set_option maxRecDepth 100000 in
set_option maxHeartbeats 1000000 in
theorem outside6 {w : World} {n c : Nat} {A : Option Addr} (i d : Int) {b : Bool} (hb : decide (i < 0 ∨ (n : Int) < i ∨ d < 1) = b) :
    Calls Tryz.prog 80 #[.slice A n c, .int .i64 i, .int .i64 d] w fun E w' => E = .returned (.bool b) ∧ Below w.heap.size w w' := by
  by_cases h1 : i < 0
  · obtain rfl : b = true := by rw [← hb]; exact decide_eq_true (.inl h1)
    clear hb
    go_enter Tryz.func80, Tryz.ntmps80
    go_wp2_with fail
    go_ret
    exact ⟨rfl, Below.refl _ _⟩
  · by_cases h2 : (n : Int) < i
    · obtain rfl : b = true := by rw [← hb]; exact decide_eq_true (.inr (.inl h2))
      clear hb
      go_enter Tryz.func80, Tryz.ntmps80
      go_wp2_with fail
      go_ret
      exact ⟨rfl, Below.refl _ _⟩
    · by_cases h3 : d < 1
      · obtain rfl : b = true := by rw [← hb]; exact decide_eq_true (.inr (.inr h3))
        clear hb
        go_enter Tryz.func80, Tryz.ntmps80
        go_wp2_with fail
        go_ret
        exact ⟨rfl, Below.refl _ _⟩
      · obtain rfl : b = false := by rw [← hb]; exact decide_eq_false (by omega)
        clear hb
        go_enter Tryz.func80, Tryz.ntmps80
        go_wp2_with fail
        go_ret
        exact ⟨rfl, Below.refl _ _⟩
end Go.Proofs.YtoldhocdfkndbaaGreatDoor.E6

namespace Go.Proofs.YtoldhocdfkndbaaGreatDoor.E6
open Go Go.RowKit Go.Proofs.YtoldhocdfkndbaaGreatDoor Go.Proofs.YtoldhocdfkndbaaGreatDoor.E5

theorem ok_i {k : Int} (h : decide (-9223372036854775808 ≤ k ∧ k ≤ 9223372036854775807) = true) : S3.okI k := by unfold S3.okI; exact of_decide_eq_true h
abbrev NoR (_ : Nat) : Prop := False
/-- The end: what a call gave is laid into the result's block, the first that was made. -/
theorem nfin {w wc w2 : World} {R : Nat → Prop} (s : St) {va vb ve : Value} (hbc : Below w.heap.size w wc) (hq : w.heap.size < wc.heap.size) (hR : ∀ b, R b → w.heap.size < b ∧ b < wc.heap.size) (hS : SIs w2 (Rw R wc.heap.size w2.heap.size) s va vb ve) (hb : Below wc.heap.size wc w2) (a0 a1 a2 a3 a4 a5 a6 a7 : Value) :
    SIs (put8 w2 w.heap.size a0 a1 a2 a3 a4 a5 a6 a7) (Rn w.heap.size (put8 w2 w.heap.size a0 a1 a2 a3 a4 a5 a6 a7).heap.size) s va vb ve ∧ Below w.heap.size w (put8 w2 w.heap.size a0 a1 a2 a3 a4 a5 a6 a7) := by
  have hz := hb.size
  refine ⟨put8_isO hS (fun h => ?_) (fun b h => ?_) a0 a1 a2 a3 a4 a5 a6 a7, put8_below (after hbc hb) (q := w.heap.size) (Nat.le_refl _) a0 a1 a2 a3 a4 a5 a6 a7⟩
  · rcases h with h | h
    · have := hR _ h; omega
    · omega
  · rw [put8_size]
    rcases h with h | h
    · have := hR _ h; exact ⟨by omega, by omega⟩
    · exact ⟨by omega, h.2⟩
/-- The result's block, and the box of a statement behind it. -/
theorem box2n (w : World) (a0 a1 a2 a3 a4 a5 a6 a7 : Value) {w1 : World} (hb : Below ((w.alloc sZ).alloc (.cells #[a0, a1, a2, a3, a4, a5, a6, a7] 64)).heap.size ((w.alloc sZ).alloc (.cells #[a0, a1, a2, a3, a4, a5, a6, a7] 64)) w1) :
    w1.heap[w.heap.size + 1]? = some (.cells #[a0, a1, a2, a3, a4, a5, a6, a7] 64 (0, 0)) ∧ R8 w1 w.heap.size ∧ Below w.heap.size w w1 := by
  have h1 : w.heap.size + 1 < ((w.alloc sZ).alloc (.cells #[a0, a1, a2, a3, a4, a5, a6, a7] 64)).heap.size := by rw [S3.sz1, S3.sz1]; omega
  have h2 := after (S3.bal (w.alloc sZ) (.cells #[a0, a1, a2, a3, a4, a5, a6, a7] 64)) hb
  have h3 := heap_alloc_new (w.alloc sZ) (.cells #[a0, a1, a2, a3, a4, a5, a6, a7] 64)
  rw [S3.sz1] at h3
  exact ⟨(hb.block _ h1).trans h3, (R8.new w _ _ _ _ _ _ _ _).bel h2, after (S3.bal w sZ) h2⟩
theorem is_empty (w : World) {s : St} (h : S3.OkS s) (ha : s.args = []) (hb : s.body = []) (he : s.els = []) : SIs w NoR s (.slice none 0 0) (.slice none 0 0) (.slice none 0 0) :=
  ⟨h, by rw [ha]; exact S3.ER.nil none 0, by rw [hb]; exact S3.SR.nil none 0, by rw [he]; exact S3.SR.nil none 0⟩
set_option maxRecDepth 100000 in
set_option maxHeartbeats 8000000 in
theorem named_call {w : World} {l : TL} {v : Value} (hT : TokL w w.heap.size v l) (hll : l.length ≤ 1000000) (i : Nat) (hn : nmTok (tkAt l i) = true) (h1 : sgAt l (i + 1) = [40]) :
    Calls Tryz.prog 118 #[v, .int .i64 (i : Int)] w (PostPS w (argS l (fun a => sCall [] (tkAt l i).2 a) (i + 1))) := by
  have hi := nm_lt hn
  have hi1 := sgAt_lt h1 (by simp)
  have q1 : (sgAt l (i + 1) == [40]) = true := by rw [h1]; rfl
  obtain ⟨TA, Tc, rfl⟩ := hT.val
  obtain ⟨_, htl, tb, og, ta, rfl, htb, t0, t1, t2⟩ := hT.at3 i hi
  have HT := Lib.hid hT
  have hlt' : (i : Int) < (l.length : Int) := by omega
  have hn1 : IntKind.i64.wrap ((i : Int) + 1) = (i : Int) + 1 := IntWalk.i64_in _ (by omega)
  generalize hx : (tkAt l i).2 = x at *
  generalize tkAt l i = tt at *
  clear hT hn h1
  go_enter Tryz.func118, Tryz.ntmps118
  try simp only [List.append_eq, List.cons_append, List.nil_append]
  go_wp2_with fail
  refine (sgn6 (tokU (tokU HT.out (S3.bal w _)) (S3.bal _ _)) q1 (by simp) (by omega)).mono ?_
  rintro E w1 ⟨rfl, hb⟩
  obtain ⟨h8, hQ, hbw⟩ := box2n w _ _ _ _ _ _ _ _ hb
  obtain ⟨k0, k1, k2, k3, k4, k5, k6, k7⟩ := row8_facts h8
  have hq1 := hQ.lt
  have hp1 : w.heap.size + 1 < w1.heap.size := lt_of_block h8
  have hI : S3.OkS ⟨0, 0, [], 0, x, [], [], []⟩ := ⟨ok_i (k := 0) rfl, ok_i (k := 0) rfl, ok_i (k := 0) rfl, by simp, htl⟩
  have D := Lib.hid (called6 (tokU HT.out hbw) hll (R := NoR) (fun _ h => h.elim) (is_empty w1 hI rfl rfl rfl) (i + 1) (by omega) (fun a => sCall [] x a) (fun _ => rfl))
  have HQ := Lib.hid hQ
  have HB9 := Lib.hid hbw
  clear hb h8 hQ hbw hI HT
  go_wp2_with fail
  refine D.out.mono ?_
  intro E w10 hP
  cases hr : argS l (fun a => sCall [] x a) (i + 1) with
  | bad j c' =>
    rw [hr] at hP
    have Hr := Lib.hid hr
    clear hr
    obtain ⟨rfl, hb⟩ := hP
    have hQ := HQ.out.bel hb
    have hq2 := hQ.lt
    obtain ⟨z0, z1, z2, z3, z4, z5, z6, z7, r0, r1, r2, r3, r4, r5, r6, r7, y0, y1, y2, y3, y4, y5, y6, y7⟩ := hQ.facts
    have HB := Lib.hid (put8_below (after HB9.out hb) (q := w.heap.size) (Nat.le_refl _) (.int .i64 0) (.int .i64 0) (.string ⟨#[]⟩) (.int .i64 0) (.string ⟨#[]⟩) (.slice none 0 0) (.slice none 0 0) (.slice none 0 0))
    clear hb hQ HQ HB9 D
    go_wp2_with fail
    exact bodyPost_ret (v := .tuple #[S3.sV zS (.slice none 0 0) (.slice none 0 0) (.slice none 0 0), .int .i64 (j : Int), .int .i64 c']) (by simp [results, Tryz.results118, go_sem, zS, r0, r1, r2, r3, r4, r5, r6, r7]) rfl (by rw [Hr.out]; exact ⟨rfl, HB.out⟩)
  | ok s2 m =>
    rw [hr] at hP
    have Hr := Lib.hid hr
    clear hr
    obtain ⟨va2, vb2, ve2, rfl, hS2, hb⟩ := hP
    obtain ⟨Aa2, ca2, rfl⟩ := hS2.a.slice
    obtain ⟨Ab2, cb2, rfl⟩ := hS2.b.slice
    obtain ⟨Ae2, ce2, rfl⟩ := hS2.e.slice
    have hQ := HQ.out.bel hb
    have hq2 := hQ.lt
    obtain ⟨z0, z1, z2, z3, z4, z5, z6, z7, r0, r1, r2, r3, r4, r5, r6, r7, y0, y1, y2, y3, y4, y5, y6, y7⟩ := hQ.facts
    have HB := Lib.hid (nfin (R := NoR) s2 HB9.out HQ.out.lt (fun _ h => h.elim) hS2 hb (.int .i64 s2.kind) (.int .i64 s2.no) (.string (S3.B s2.name)) (.int .i64 s2.typ) (.string (S3.B s2.callee)) (.slice Aa2 s2.args.length ca2) (.slice Ab2 s2.body.length cb2) (.slice Ae2 s2.els.length ce2))
    clear hb hQ HQ HB9 hS2 D
    go_wp2_with fail
    exact bodyPost_ret (v := .tuple #[(S3.sV s2 (.slice Aa2 s2.args.length ca2) (.slice Ab2 s2.body.length cb2) (.slice Ae2 s2.els.length ce2)), .int .i64 (m : Int), .int .i64 0]) (by simp [results, Tryz.results118, go_sem, r0, r1, r2, r3, r4, r5, r6, r7]) rfl (by rw [Hr.out]; exact ⟨_, _, _, rfl, HB.out.1, HB.out.2⟩)
set_option maxRecDepth 100000 in
set_option maxHeartbeats 8000000 in
theorem named_new {w : World} {l : TL} {v : Value} (hT : TokL w w.heap.size v l) (hll : l.length ≤ 1000000) (i : Nat) (hn : nmTok (tkAt l i) = true) (h1 : sgAt l (i + 1) = [61]) (h2 : kwAt l (i + 2) = wNew) :
    Calls Tryz.prog 118 #[v, .int .i64 (i : Int)] w (PostPS w (valS l (fun e => sNew (tkAt l i).2 e) (i + 3))) := by
  have hi := nm_lt hn
  have hi1 := sgAt_lt h1 (by simp)
  have qa : (sgAt l (i + 1) == [40]) = false := by rw [h1]; rfl
  have qb : (sgAt l (i + 1) == [91]) = false := by rw [h1]; rfl
  have qc : (sgAt l (i + 1) == [61]) = true := by rw [h1]; rfl
  have hi2 : i + 2 < l.length := by
    rcases Nat.lt_or_ge (i + 2) l.length with h3 | h3
    · exact h3
    · exfalso
      have : kwAt l (i + 2) = [] := by unfold kwAt tkAt; rw [List.getElem?_eq_none h3]; rfl
      rw [this] at h2; exact absurd h2 (by decide)
  have qd : (kwAt l (i + 2) == wNew) = true := by rw [h2]; rfl
  obtain ⟨TA, Tc, rfl⟩ := hT.val
  obtain ⟨_, htl, tb, og, ta, rfl, htb, t0, t1, t2⟩ := hT.at3 i hi
  have HT := Lib.hid hT
  have hlt' : (i : Int) < (l.length : Int) := by omega
  have hn1 : IntKind.i64.wrap ((i : Int) + 1) = (i : Int) + 1 := IntWalk.i64_in _ (by omega)
  have hn2 : IntKind.i64.wrap ((i : Int) + 2) = (i : Int) + 2 := IntWalk.i64_in _ (by omega)
  have hn3 : IntKind.i64.wrap ((i : Int) + 3) = (i : Int) + 3 := IntWalk.i64_in _ (by omega)
  generalize hx : (tkAt l i).2 = x at *
  clear hT hn h1 h2
  go_enter Tryz.func118, Tryz.ntmps118
  try simp only [List.append_eq, List.cons_append, List.nil_append]
  go_wp2_with fail
  refine (sgn6 (tokU (tokU HT.out (S3.bal w _)) (S3.bal _ _)) qa (by first | decide | simp) (by omega)).mono ?_
  rintro E w1 ⟨rfl, hb⟩
  have HB1 := Lib.hid hb
  clear hb
  go_wp2_with fail
  refine (sgn6 (tokU (tokU (tokU HT.out (S3.bal w _)) (S3.bal _ _)) HB1.out) qb (by first | decide | simp) (by omega)).mono ?_
  rintro E w2 ⟨rfl, hb⟩
  have HB2 := Lib.hid (after HB1.out hb)
  clear hb HB1
  go_wp2_with fail
  refine (sgn6 (tokU (tokU (tokU HT.out (S3.bal w _)) (S3.bal _ _)) HB2.out) qc (by first | decide | simp) (by omega)).mono ?_
  rintro E w3 ⟨rfl, hb⟩
  have HB3 := Lib.hid (after HB2.out hb)
  clear hb HB2
  go_wp2_with fail
  refine (kw6 (tokU (tokU (tokU HT.out (S3.bal w _)) (S3.bal _ _)) HB3.out) qd (by first | decide | simp) (by omega)).mono ?_
  rintro E w4 ⟨rfl, hb⟩
  have HB4 := Lib.hid (after HB3.out hb)
  clear hb HB3
  obtain ⟨h8, hQ, hbw⟩ := box2n w _ _ _ _ _ _ _ _ HB4.out
  obtain ⟨k0, k1, k2, k3, k4, k5, k6, k7⟩ := row8_facts h8
  have hq1 := hQ.lt
  have hp1 : w.heap.size + 1 < w4.heap.size := lt_of_block h8
  have x0 := froz0 h8
  have hbw2 : Below w.heap.size w (w4.setCell ⟨w.heap.size + 1, 0, none⟩ (.int .i64 4)) := hbw.setCell (p := ⟨w.heap.size + 1, 0, none⟩) (by show w.heap.size ≤ w.heap.size + 1; omega) _
  have hQ2 := hQ.set (p := ⟨w.heap.size + 1, 0, none⟩) (by show w.heap.size + 1 ≠ _; omega) (.int .i64 4)
  have hI : S3.OkS ⟨4, 0, x, 0, [], [], [], []⟩ := ⟨ok_i (k := 4) rfl, ok_i (k := 0) rfl, ok_i (k := 0) rfl, htl, by simp⟩
  have D := Lib.hid (valued6 (tokU HT.out hbw2) hll (R := NoR) (fun _ h => h.elim) (is_empty (w4.setCell ⟨w.heap.size + 1, 0, none⟩ (.int .i64 4)) hI rfl rfl rfl) (push_nil _ _) (i + 3) (by omega) (fun e => sNew x e) (fun _ => rfl))
  have HQ := Lib.hid hQ2
  have HB9 := Lib.hid hbw2
  clear h8 hQ hbw hbw2 hQ2 hI HT HB4
  go_wp2_with fail
  refine D.out.mono ?_
  intro E w10 hP
  cases hr : valS l (fun e => sNew x e) (i + 3) with
  | bad j c' =>
    rw [hr] at hP
    have Hr := Lib.hid hr
    clear hr
    obtain ⟨rfl, hb⟩ := hP
    have hQ := HQ.out.bel hb
    have hq2 := hQ.lt
    obtain ⟨z0, z1, z2, z3, z4, z5, z6, z7, r0, r1, r2, r3, r4, r5, r6, r7, y0, y1, y2, y3, y4, y5, y6, y7⟩ := hQ.facts
    have HB := Lib.hid (put8_below (after HB9.out hb) (q := w.heap.size) (Nat.le_refl _) (.int .i64 0) (.int .i64 0) (.string ⟨#[]⟩) (.int .i64 0) (.string ⟨#[]⟩) (.slice none 0 0) (.slice none 0 0) (.slice none 0 0))
    clear hb hQ HQ HB9 D
    go_wp2_with fail
    exact bodyPost_ret (v := .tuple #[S3.sV zS (.slice none 0 0) (.slice none 0 0) (.slice none 0 0), .int .i64 (j : Int), .int .i64 c']) (by simp [results, Tryz.results118, go_sem, zS, r0, r1, r2, r3, r4, r5, r6, r7]) rfl (by rw [Hr.out]; exact ⟨rfl, HB.out⟩)
  | ok s2 m =>
    rw [hr] at hP
    have Hr := Lib.hid hr
    clear hr
    obtain ⟨va2, vb2, ve2, rfl, hS2, hb⟩ := hP
    obtain ⟨Aa2, ca2, rfl⟩ := hS2.a.slice
    obtain ⟨Ab2, cb2, rfl⟩ := hS2.b.slice
    obtain ⟨Ae2, ce2, rfl⟩ := hS2.e.slice
    have hQ := HQ.out.bel hb
    have hq2 := hQ.lt
    obtain ⟨z0, z1, z2, z3, z4, z5, z6, z7, r0, r1, r2, r3, r4, r5, r6, r7, y0, y1, y2, y3, y4, y5, y6, y7⟩ := hQ.facts
    have HB := Lib.hid (nfin (R := NoR) s2 HB9.out HQ.out.lt (fun _ h => h.elim) hS2 hb (.int .i64 s2.kind) (.int .i64 s2.no) (.string (S3.B s2.name)) (.int .i64 s2.typ) (.string (S3.B s2.callee)) (.slice Aa2 s2.args.length ca2) (.slice Ab2 s2.body.length cb2) (.slice Ae2 s2.els.length ce2))
    clear hb hQ HQ HB9 hS2 D
    go_wp2_with fail
    exact bodyPost_ret (v := .tuple #[(S3.sV s2 (.slice Aa2 s2.args.length ca2) (.slice Ab2 s2.body.length cb2) (.slice Ae2 s2.els.length ce2)), .int .i64 (m : Int), .int .i64 0]) (by simp [results, Tryz.results118, go_sem, r0, r1, r2, r3, r4, r5, r6, r7]) rfl (by rw [Hr.out]; exact ⟨_, _, _, rfl, HB.out.1, HB.out.2⟩)
set_option maxRecDepth 100000 in
set_option maxHeartbeats 8000000 in
theorem named_set1 {w : World} {l : TL} {v : Value} (hT : TokL w w.heap.size v l) (hll : l.length ≤ 1000000) (i : Nat) (hn : nmTok (tkAt l i) = true) (h1 : sgAt l (i + 1) = [61]) (h2 : kwAt l (i + 2) ≠ wNew) (h3 : nmTok (tkAt l (i + 2)) = false) :
    Calls Tryz.prog 118 #[v, .int .i64 (i : Int)] w (PostPS w (valS l (fun e => sSet (tkAt l i).2 e) (i + 2))) := by
  have hi := nm_lt hn
  have hi1 := sgAt_lt h1 (by simp)
  have qa : (sgAt l (i + 1) == [40]) = false := by rw [h1]; rfl
  have qb : (sgAt l (i + 1) == [91]) = false := by rw [h1]; rfl
  have qc : (sgAt l (i + 1) == [61]) = true := by rw [h1]; rfl
  have qd : (kwAt l (i + 2) == wNew) = false := beq_eq_false_iff_ne.2 h2
  obtain ⟨TA, Tc, rfl⟩ := hT.val
  obtain ⟨_, htl, tb, og, ta, rfl, htb, t0, t1, t2⟩ := hT.at3 i hi
  have HT := Lib.hid hT
  have hlt' : (i : Int) < (l.length : Int) := by omega
  have hn1 : IntKind.i64.wrap ((i : Int) + 1) = (i : Int) + 1 := IntWalk.i64_in _ (by omega)
  have hn2 : IntKind.i64.wrap ((i : Int) + 2) = (i : Int) + 2 := IntWalk.i64_in _ (by omega)
  have hn3 : IntKind.i64.wrap ((i : Int) + 3) = (i : Int) + 3 := IntWalk.i64_in _ (by omega)
  generalize hx : (tkAt l i).2 = x at *
  clear hT hn h1 h2
  go_enter Tryz.func118, Tryz.ntmps118
  try simp only [List.append_eq, List.cons_append, List.nil_append]
  go_wp2_with fail
  refine (sgn6 (tokU (tokU HT.out (S3.bal w _)) (S3.bal _ _)) qa (by first | decide | simp) (by omega)).mono ?_
  rintro E w1 ⟨rfl, hb⟩
  have HB1 := Lib.hid hb
  clear hb
  go_wp2_with fail
  refine (sgn6 (tokU (tokU (tokU HT.out (S3.bal w _)) (S3.bal _ _)) HB1.out) qb (by first | decide | simp) (by omega)).mono ?_
  rintro E w2 ⟨rfl, hb⟩
  have HB2 := Lib.hid (after HB1.out hb)
  clear hb HB1
  go_wp2_with fail
  refine (sgn6 (tokU (tokU (tokU HT.out (S3.bal w _)) (S3.bal _ _)) HB2.out) qc (by first | decide | simp) (by omega)).mono ?_
  rintro E w3 ⟨rfl, hb⟩
  have HB3 := Lib.hid (after HB2.out hb)
  clear hb HB2
  go_wp2_with fail
  refine (kw6 (tokU (tokU (tokU HT.out (S3.bal w _)) (S3.bal _ _)) HB3.out) qd (by first | decide | simp) (by omega)).mono ?_
  rintro E w4 ⟨rfl, hb⟩
  have HB4 := Lib.hid (after HB3.out hb)
  clear hb HB3
  go_wp2_with fail
  refine (nam6 (tokU (tokU (tokU HT.out (S3.bal w _)) (S3.bal _ _)) HB4.out) h3 (by omega)).mono ?_
  rintro E w5 ⟨rfl, hb⟩
  have HB5 := Lib.hid (after HB4.out hb)
  clear hb HB4
  obtain ⟨h8, hQ, hbw⟩ := box2n w _ _ _ _ _ _ _ _ HB5.out
  obtain ⟨k0, k1, k2, k3, k4, k5, k6, k7⟩ := row8_facts h8
  have hq1 := hQ.lt
  have hp1 : w.heap.size + 1 < w5.heap.size := lt_of_block h8
  have hbw2 := hbw
  have hQ2 := hQ
  have hI : S3.OkS ⟨2, 0, x, 0, [], [], [], []⟩ := ⟨ok_i (k := 2) rfl, ok_i (k := 0) rfl, ok_i (k := 0) rfl, htl, by simp⟩
  have D := Lib.hid (valued6 (tokU HT.out hbw2) hll (R := NoR) (fun _ h => h.elim) (is_empty w5 hI rfl rfl rfl) (push_nil _ _) (i + 2) (by omega) (fun e => sSet x e) (fun _ => rfl))
  have HQ := Lib.hid hQ2
  have HB9 := Lib.hid hbw2
  clear h8 hQ hbw hbw2 hQ2 hI HT HB5
  go_wp2_with fail
  refine D.out.mono ?_
  intro E w10 hP
  cases hr : valS l (fun e => sSet x e) (i + 2) with
  | bad j c' =>
    rw [hr] at hP
    have Hr := Lib.hid hr
    clear hr
    obtain ⟨rfl, hb⟩ := hP
    have hQ := HQ.out.bel hb
    have hq2 := hQ.lt
    obtain ⟨z0, z1, z2, z3, z4, z5, z6, z7, r0, r1, r2, r3, r4, r5, r6, r7, y0, y1, y2, y3, y4, y5, y6, y7⟩ := hQ.facts
    have HB := Lib.hid (put8_below (after HB9.out hb) (q := w.heap.size) (Nat.le_refl _) (.int .i64 0) (.int .i64 0) (.string ⟨#[]⟩) (.int .i64 0) (.string ⟨#[]⟩) (.slice none 0 0) (.slice none 0 0) (.slice none 0 0))
    clear hb hQ HQ HB9 D
    go_wp2_with fail
    exact bodyPost_ret (v := .tuple #[S3.sV zS (.slice none 0 0) (.slice none 0 0) (.slice none 0 0), .int .i64 (j : Int), .int .i64 c']) (by simp [results, Tryz.results118, go_sem, zS, r0, r1, r2, r3, r4, r5, r6, r7]) rfl (by rw [Hr.out]; exact ⟨rfl, HB.out⟩)
  | ok s2 m =>
    rw [hr] at hP
    have Hr := Lib.hid hr
    clear hr
    obtain ⟨va2, vb2, ve2, rfl, hS2, hb⟩ := hP
    obtain ⟨Aa2, ca2, rfl⟩ := hS2.a.slice
    obtain ⟨Ab2, cb2, rfl⟩ := hS2.b.slice
    obtain ⟨Ae2, ce2, rfl⟩ := hS2.e.slice
    have hQ := HQ.out.bel hb
    have hq2 := hQ.lt
    obtain ⟨z0, z1, z2, z3, z4, z5, z6, z7, r0, r1, r2, r3, r4, r5, r6, r7, y0, y1, y2, y3, y4, y5, y6, y7⟩ := hQ.facts
    have HB := Lib.hid (nfin (R := NoR) s2 HB9.out HQ.out.lt (fun _ h => h.elim) hS2 hb (.int .i64 s2.kind) (.int .i64 s2.no) (.string (S3.B s2.name)) (.int .i64 s2.typ) (.string (S3.B s2.callee)) (.slice Aa2 s2.args.length ca2) (.slice Ab2 s2.body.length cb2) (.slice Ae2 s2.els.length ce2))
    clear hb hQ HQ HB9 hS2 D
    go_wp2_with fail
    exact bodyPost_ret (v := .tuple #[(S3.sV s2 (.slice Aa2 s2.args.length ca2) (.slice Ab2 s2.body.length cb2) (.slice Ae2 s2.els.length ce2)), .int .i64 (m : Int), .int .i64 0]) (by simp [results, Tryz.results118, go_sem, r0, r1, r2, r3, r4, r5, r6, r7]) rfl (by rw [Hr.out]; exact ⟨_, _, _, rfl, HB.out.1, HB.out.2⟩)
set_option maxRecDepth 100000 in
set_option maxHeartbeats 8000000 in
theorem named_set2 {w : World} {l : TL} {v : Value} (hT : TokL w w.heap.size v l) (hll : l.length ≤ 1000000) (i : Nat) (hn : nmTok (tkAt l i) = true) (h1 : sgAt l (i + 1) = [61]) (h2 : kwAt l (i + 2) ≠ wNew) (h3 : nmTok (tkAt l (i + 2)) = true) (h4 : sgAt l (i + 3) ≠ [40]) :
    Calls Tryz.prog 118 #[v, .int .i64 (i : Int)] w (PostPS w (valS l (fun e => sSet (tkAt l i).2 e) (i + 2))) := by
  have hi := nm_lt hn
  have hi1 := sgAt_lt h1 (by simp)
  have qa : (sgAt l (i + 1) == [40]) = false := by rw [h1]; rfl
  have qb : (sgAt l (i + 1) == [91]) = false := by rw [h1]; rfl
  have qc : (sgAt l (i + 1) == [61]) = true := by rw [h1]; rfl
  have qd : (kwAt l (i + 2) == wNew) = false := beq_eq_false_iff_ne.2 h2
  have qe : (sgAt l (i + 3) == [40]) = false := beq_eq_false_iff_ne.2 h4
  obtain ⟨TA, Tc, rfl⟩ := hT.val
  obtain ⟨_, htl, tb, og, ta, rfl, htb, t0, t1, t2⟩ := hT.at3 i hi
  have HT := Lib.hid hT
  have hlt' : (i : Int) < (l.length : Int) := by omega
  have hn1 : IntKind.i64.wrap ((i : Int) + 1) = (i : Int) + 1 := IntWalk.i64_in _ (by omega)
  have hn2 : IntKind.i64.wrap ((i : Int) + 2) = (i : Int) + 2 := IntWalk.i64_in _ (by omega)
  have hn3 : IntKind.i64.wrap ((i : Int) + 3) = (i : Int) + 3 := IntWalk.i64_in _ (by omega)
  generalize hx : (tkAt l i).2 = x at *
  clear hT hn h1 h2 h4
  go_enter Tryz.func118, Tryz.ntmps118
  try simp only [List.append_eq, List.cons_append, List.nil_append]
  go_wp2_with fail
  refine (sgn6 (tokU (tokU HT.out (S3.bal w _)) (S3.bal _ _)) qa (by first | decide | simp) (by omega)).mono ?_
  rintro E w1 ⟨rfl, hb⟩
  have HB1 := Lib.hid hb
  clear hb
  go_wp2_with fail
  refine (sgn6 (tokU (tokU (tokU HT.out (S3.bal w _)) (S3.bal _ _)) HB1.out) qb (by first | decide | simp) (by omega)).mono ?_
  rintro E w2 ⟨rfl, hb⟩
  have HB2 := Lib.hid (after HB1.out hb)
  clear hb HB1
  go_wp2_with fail
  refine (sgn6 (tokU (tokU (tokU HT.out (S3.bal w _)) (S3.bal _ _)) HB2.out) qc (by first | decide | simp) (by omega)).mono ?_
  rintro E w3 ⟨rfl, hb⟩
  have HB3 := Lib.hid (after HB2.out hb)
  clear hb HB2
  go_wp2_with fail
  refine (kw6 (tokU (tokU (tokU HT.out (S3.bal w _)) (S3.bal _ _)) HB3.out) qd (by first | decide | simp) (by omega)).mono ?_
  rintro E w4 ⟨rfl, hb⟩
  have HB4 := Lib.hid (after HB3.out hb)
  clear hb HB3
  go_wp2_with fail
  refine (nam6 (tokU (tokU (tokU HT.out (S3.bal w _)) (S3.bal _ _)) HB4.out) h3 (by omega)).mono ?_
  rintro E w5 ⟨rfl, hb⟩
  have HB5 := Lib.hid (after HB4.out hb)
  clear hb HB4
  go_wp2_with fail
  refine (sgn6 (tokU (tokU (tokU HT.out (S3.bal w _)) (S3.bal _ _)) HB5.out) qe (by first | decide | simp) (by omega)).mono ?_
  rintro E w6 ⟨rfl, hb⟩
  have HB6 := Lib.hid (after HB5.out hb)
  clear hb HB5
  obtain ⟨h8, hQ, hbw⟩ := box2n w _ _ _ _ _ _ _ _ HB6.out
  obtain ⟨k0, k1, k2, k3, k4, k5, k6, k7⟩ := row8_facts h8
  have hq1 := hQ.lt
  have hp1 : w.heap.size + 1 < w6.heap.size := lt_of_block h8
  have hbw2 := hbw
  have hQ2 := hQ
  have hI : S3.OkS ⟨2, 0, x, 0, [], [], [], []⟩ := ⟨ok_i (k := 2) rfl, ok_i (k := 0) rfl, ok_i (k := 0) rfl, htl, by simp⟩
  have D := Lib.hid (valued6 (tokU HT.out hbw2) hll (R := NoR) (fun _ h => h.elim) (is_empty w6 hI rfl rfl rfl) (push_nil _ _) (i + 2) (by omega) (fun e => sSet x e) (fun _ => rfl))
  have HQ := Lib.hid hQ2
  have HB9 := Lib.hid hbw2
  clear h8 hQ hbw hbw2 hQ2 hI HT HB6
  go_wp2_with fail
  refine D.out.mono ?_
  intro E w10 hP
  cases hr : valS l (fun e => sSet x e) (i + 2) with
  | bad j c' =>
    rw [hr] at hP
    have Hr := Lib.hid hr
    clear hr
    obtain ⟨rfl, hb⟩ := hP
    have hQ := HQ.out.bel hb
    have hq2 := hQ.lt
    obtain ⟨z0, z1, z2, z3, z4, z5, z6, z7, r0, r1, r2, r3, r4, r5, r6, r7, y0, y1, y2, y3, y4, y5, y6, y7⟩ := hQ.facts
    have HB := Lib.hid (put8_below (after HB9.out hb) (q := w.heap.size) (Nat.le_refl _) (.int .i64 0) (.int .i64 0) (.string ⟨#[]⟩) (.int .i64 0) (.string ⟨#[]⟩) (.slice none 0 0) (.slice none 0 0) (.slice none 0 0))
    clear hb hQ HQ HB9 D
    go_wp2_with fail
    exact bodyPost_ret (v := .tuple #[S3.sV zS (.slice none 0 0) (.slice none 0 0) (.slice none 0 0), .int .i64 (j : Int), .int .i64 c']) (by simp [results, Tryz.results118, go_sem, zS, r0, r1, r2, r3, r4, r5, r6, r7]) rfl (by rw [Hr.out]; exact ⟨rfl, HB.out⟩)
  | ok s2 m =>
    rw [hr] at hP
    have Hr := Lib.hid hr
    clear hr
    obtain ⟨va2, vb2, ve2, rfl, hS2, hb⟩ := hP
    obtain ⟨Aa2, ca2, rfl⟩ := hS2.a.slice
    obtain ⟨Ab2, cb2, rfl⟩ := hS2.b.slice
    obtain ⟨Ae2, ce2, rfl⟩ := hS2.e.slice
    have hQ := HQ.out.bel hb
    have hq2 := hQ.lt
    obtain ⟨z0, z1, z2, z3, z4, z5, z6, z7, r0, r1, r2, r3, r4, r5, r6, r7, y0, y1, y2, y3, y4, y5, y6, y7⟩ := hQ.facts
    have HB := Lib.hid (nfin (R := NoR) s2 HB9.out HQ.out.lt (fun _ h => h.elim) hS2 hb (.int .i64 s2.kind) (.int .i64 s2.no) (.string (S3.B s2.name)) (.int .i64 s2.typ) (.string (S3.B s2.callee)) (.slice Aa2 s2.args.length ca2) (.slice Ab2 s2.body.length cb2) (.slice Ae2 s2.els.length ce2))
    clear hb hQ HQ HB9 hS2 D
    go_wp2_with fail
    exact bodyPost_ret (v := .tuple #[(S3.sV s2 (.slice Aa2 s2.args.length ca2) (.slice Ab2 s2.body.length cb2) (.slice Ae2 s2.els.length ce2)), .int .i64 (m : Int), .int .i64 0]) (by simp [results, Tryz.results118, go_sem, r0, r1, r2, r3, r4, r5, r6, r7]) rfl (by rw [Hr.out]; exact ⟨_, _, _, rfl, HB.out.1, HB.out.2⟩)
end Go.Proofs.YtoldhocdfkndbaaGreatDoor.E6

namespace Go.Proofs.YtoldhocdfkndbaaGreatDoor.E6
open Go Go.RowKit Go.Proofs.YtoldhocdfkndbaaGreatDoor Go.Proofs.YtoldhocdfkndbaaGreatDoor.E5

theorem froz4 {w : World} {q : Nat} {a0 a1 a2 a3 a4 a5 a6 a7 : Value} (h : w.heap[q]? = some (.cells #[a0, a1, a2, a3, a4, a5, a6, a7] 64 (0, 0))) : w.frozen? ⟨q, 4, none⟩ = false := by
  unfold World.frozen?; rw [h]; rfl
set_option maxRecDepth 100000 in
set_option maxHeartbeats 8000000 in
theorem named_res {w : World} {l : TL} {v : Value} (hT : TokL w w.heap.size v l) (hll : l.length ≤ 1000000) (i : Nat) (hn : nmTok (tkAt l i) = true) (h1 : sgAt l (i + 1) = [61]) (h2 : kwAt l (i + 2) ≠ wNew) (h3 : nmTok (tkAt l (i + 2)) = true) (h4 : sgAt l (i + 3) = [40]) :
    Calls Tryz.prog 118 #[v, .int .i64 (i : Int)] w (PostPS w (argS l (fun a => sCall (tkAt l i).2 (tkAt l (i + 2)).2 a) (i + 3))) := by
  have hi := nm_lt hn
  have hi1 := sgAt_lt h1 (by simp)
  have qa : (sgAt l (i + 1) == [40]) = false := by rw [h1]; rfl
  have qb : (sgAt l (i + 1) == [91]) = false := by rw [h1]; rfl
  have qc : (sgAt l (i + 1) == [61]) = true := by rw [h1]; rfl
  have hi2 := nm_lt h3
  have hi3 := sgAt_lt h4 (by simp)
  have qd : (kwAt l (i + 2) == wNew) = false := beq_eq_false_iff_ne.2 h2
  have qe : (sgAt l (i + 3) == [40]) = true := by rw [h4]; rfl
  have hlt2 : (i : Int) + 2 < (l.length : Int) := by omega
  obtain ⟨TA, Tc, rfl⟩ := hT.val
  obtain ⟨_, htl, tb, og, ta, rfl, htb, t0, t1, t2⟩ := hT.at3 i hi
  have HT := Lib.hid hT
  have hlt' : (i : Int) < (l.length : Int) := by omega
  have hn1 : IntKind.i64.wrap ((i : Int) + 1) = (i : Int) + 1 := IntWalk.i64_in _ (by omega)
  have hn2 : IntKind.i64.wrap ((i : Int) + 2) = (i : Int) + 2 := IntWalk.i64_in _ (by omega)
  have hn3 : IntKind.i64.wrap ((i : Int) + 3) = (i : Int) + 3 := IntWalk.i64_in _ (by omega)
  generalize hy : (tkAt l (i + 2)).2 = y
  generalize hx : (tkAt l i).2 = x at *
  clear hT hn h1 h2 h4
  go_enter Tryz.func118, Tryz.ntmps118
  try simp only [List.append_eq, List.cons_append, List.nil_append]
  go_wp2_with fail
  refine (sgn6 (tokU (tokU HT.out (S3.bal w _)) (S3.bal _ _)) qa (by first | decide | simp) (by omega)).mono ?_
  rintro E w1 ⟨rfl, hb⟩
  have HB1 := Lib.hid hb
  clear hb
  go_wp2_with fail
  refine (sgn6 (tokU (tokU (tokU HT.out (S3.bal w _)) (S3.bal _ _)) HB1.out) qb (by first | decide | simp) (by omega)).mono ?_
  rintro E w2 ⟨rfl, hb⟩
  have HB2 := Lib.hid (after HB1.out hb)
  clear hb HB1
  go_wp2_with fail
  refine (sgn6 (tokU (tokU (tokU HT.out (S3.bal w _)) (S3.bal _ _)) HB2.out) qc (by first | decide | simp) (by omega)).mono ?_
  rintro E w3 ⟨rfl, hb⟩
  have HB3 := Lib.hid (after HB2.out hb)
  clear hb HB2
  go_wp2_with fail
  refine (kw6 (tokU (tokU (tokU HT.out (S3.bal w _)) (S3.bal _ _)) HB3.out) qd (by first | decide | simp) (by omega)).mono ?_
  rintro E w4 ⟨rfl, hb⟩
  have HB4 := Lib.hid (after HB3.out hb)
  clear hb HB3
  go_wp2_with fail
  refine (nam6 (tokU (tokU (tokU HT.out (S3.bal w _)) (S3.bal _ _)) HB4.out) h3 (by omega)).mono ?_
  rintro E w5 ⟨rfl, hb⟩
  have HB5 := Lib.hid (after HB4.out hb)
  clear hb HB4
  go_wp2_with fail
  refine (sgn6 (tokU (tokU (tokU HT.out (S3.bal w _)) (S3.bal _ _)) HB5.out) qe (by first | decide | simp) (by omega)).mono ?_
  rintro E w6 ⟨rfl, hb⟩
  have HB6 := Lib.hid (after HB5.out hb)
  clear hb HB5
  obtain ⟨h8, hQ, hbw⟩ := box2n w _ _ _ _ _ _ _ _ HB6.out
  obtain ⟨k0, k1, k2, k3, k4, k5, k6, k7⟩ := row8_facts h8
  have hq1 := hQ.lt
  have hp1 : w.heap.size + 1 < w6.heap.size := lt_of_block h8
  obtain ⟨_, htl2, b2, o2, ta2, heA, htb2, u0, u1, u2⟩ := (tokU HT.out hbw).at3 (i + 2) hi2
  cases heA
  rw [hy] at htl2 u1
  have x4 := froz4 h8
  have hbw2 : Below w.heap.size w (w6.setCell ⟨w.heap.size + 1, 4, none⟩ (.string (B y))) := hbw.setCell (p := ⟨w.heap.size + 1, 4, none⟩) (by show w.heap.size ≤ w.heap.size + 1; omega) _
  have hQ2 := hQ.set (p := ⟨w.heap.size + 1, 4, none⟩) (by show w.heap.size + 1 ≠ _; omega) (.string (B y))
  have hI : S3.OkS ⟨2, 0, x, 0, y, [], [], []⟩ := ⟨ok_i (k := 2) rfl, ok_i (k := 0) rfl, ok_i (k := 0) rfl, htl, htl2⟩
  have D := Lib.hid (called6 (tokU HT.out hbw2) hll (R := NoR) (fun _ h => h.elim) (is_empty (w6.setCell ⟨w.heap.size + 1, 4, none⟩ (.string (B y))) hI rfl rfl rfl) (i + 3) (by omega) (fun a => sCall x y a) (fun _ => rfl))
  have HQ := Lib.hid hQ2
  have HB9 := Lib.hid hbw2
  clear h8 hQ hbw hbw2 hQ2 hI HT HB6
  go_wp2_with fail
  refine D.out.mono ?_
  intro E w10 hP
  cases hr : argS l (fun a => sCall x y a) (i + 3) with
  | bad j c' =>
    rw [hr] at hP
    have Hr := Lib.hid hr
    clear hr
    obtain ⟨rfl, hb⟩ := hP
    have hQ := HQ.out.bel hb
    have hq2 := hQ.lt
    obtain ⟨z0, z1, z2, z3, z4, z5, z6, z7, r0, r1, r2, r3, r4, r5, r6, r7, y0, y1, y2, y3, y4, y5, y6, y7⟩ := hQ.facts
    have HB := Lib.hid (put8_below (after HB9.out hb) (q := w.heap.size) (Nat.le_refl _) (.int .i64 0) (.int .i64 0) (.string ⟨#[]⟩) (.int .i64 0) (.string ⟨#[]⟩) (.slice none 0 0) (.slice none 0 0) (.slice none 0 0))
    clear hb hQ HQ HB9 D
    go_wp2_with fail
    exact bodyPost_ret (v := .tuple #[S3.sV zS (.slice none 0 0) (.slice none 0 0) (.slice none 0 0), .int .i64 (j : Int), .int .i64 c']) (by simp [results, Tryz.results118, go_sem, zS, r0, r1, r2, r3, r4, r5, r6, r7]) rfl (by rw [Hr.out]; exact ⟨rfl, HB.out⟩)
  | ok s2 m =>
    rw [hr] at hP
    have Hr := Lib.hid hr
    clear hr
    obtain ⟨va2, vb2, ve2, rfl, hS2, hb⟩ := hP
    obtain ⟨Aa2, ca2, rfl⟩ := hS2.a.slice
    obtain ⟨Ab2, cb2, rfl⟩ := hS2.b.slice
    obtain ⟨Ae2, ce2, rfl⟩ := hS2.e.slice
    have hQ := HQ.out.bel hb
    have hq2 := hQ.lt
    obtain ⟨z0, z1, z2, z3, z4, z5, z6, z7, r0, r1, r2, r3, r4, r5, r6, r7, y0, y1, y2, y3, y4, y5, y6, y7⟩ := hQ.facts
    have HB := Lib.hid (nfin (R := NoR) s2 HB9.out HQ.out.lt (fun _ h => h.elim) hS2 hb (.int .i64 s2.kind) (.int .i64 s2.no) (.string (S3.B s2.name)) (.int .i64 s2.typ) (.string (S3.B s2.callee)) (.slice Aa2 s2.args.length ca2) (.slice Ab2 s2.body.length cb2) (.slice Ae2 s2.els.length ce2))
    clear hb hQ HQ HB9 hS2 D
    go_wp2_with fail
    exact bodyPost_ret (v := .tuple #[(S3.sV s2 (.slice Aa2 s2.args.length ca2) (.slice Ab2 s2.body.length cb2) (.slice Ae2 s2.els.length ce2)), .int .i64 (m : Int), .int .i64 0]) (by simp [results, Tryz.results118, go_sem, r0, r1, r2, r3, r4, r5, r6, r7]) rfl (by rw [Hr.out]; exact ⟨_, _, _, rfl, HB.out.1, HB.out.2⟩)
set_option maxRecDepth 100000 in
set_option maxHeartbeats 8000000 in
theorem named_bad {w : World} {l : TL} {v : Value} (hT : TokL w w.heap.size v l) (hll : l.length ≤ 1000000) (i : Nat) (hn : nmTok (tkAt l i) = true) (h1 : sgAt l (i + 1) ≠ [40]) (h2 : sgAt l (i + 1) ≠ [91]) (h3 : sgAt l (i + 1) ≠ [61]) :
    Calls Tryz.prog 118 #[v, .int .i64 (i : Int)] w (PostPS w (.bad (i + 1) 7)) := by
  have hi := nm_lt hn
  have qa : (sgAt l (i + 1) == [40]) = false := beq_eq_false_iff_ne.2 h1
  have qb : (sgAt l (i + 1) == [91]) = false := beq_eq_false_iff_ne.2 h2
  have qc : (sgAt l (i + 1) == [61]) = false := beq_eq_false_iff_ne.2 h3
  obtain ⟨TA, Tc, rfl⟩ := hT.val
  obtain ⟨_, htl, tb, og, ta, rfl, htb, t0, t1, t2⟩ := hT.at3 i hi
  have HT := Lib.hid hT
  have hlt' : (i : Int) < (l.length : Int) := by omega
  have hn1 : IntKind.i64.wrap ((i : Int) + 1) = (i : Int) + 1 := IntWalk.i64_in _ (by omega)
  have hn2 : IntKind.i64.wrap ((i : Int) + 2) = (i : Int) + 2 := IntWalk.i64_in _ (by omega)
  have hn3 : IntKind.i64.wrap ((i : Int) + 3) = (i : Int) + 3 := IntWalk.i64_in _ (by omega)
  generalize hx : (tkAt l i).2 = x at *
  clear hT hn h1 h2 h3
  go_enter Tryz.func118, Tryz.ntmps118
  try simp only [List.append_eq, List.cons_append, List.nil_append]
  go_wp2_with fail
  refine (sgn6 (tokU (tokU HT.out (S3.bal w _)) (S3.bal _ _)) qa (by first | decide | simp) (by omega)).mono ?_
  rintro E w1 ⟨rfl, hb⟩
  have HB1 := Lib.hid hb
  clear hb
  go_wp2_with fail
  refine (sgn6 (tokU (tokU (tokU HT.out (S3.bal w _)) (S3.bal _ _)) HB1.out) qb (by first | decide | simp) (by omega)).mono ?_
  rintro E w2 ⟨rfl, hb⟩
  have HB2 := Lib.hid (after HB1.out hb)
  clear hb HB1
  go_wp2_with fail
  refine (sgn6 (tokU (tokU (tokU HT.out (S3.bal w _)) (S3.bal _ _)) HB2.out) qc (by first | decide | simp) (by omega)).mono ?_
  rintro E w3 ⟨rfl, hb⟩
  have HB3 := Lib.hid (after HB2.out hb)
  clear hb HB2
  go_wp2_with fail
  refine (wrong6 _ _).mono ?_
  rintro E w4 ⟨rfl, hb⟩
  obtain ⟨h8, hQ, hbw⟩ := box2n w _ _ _ _ _ _ _ _ (after HB3.out hb)
  have hq2 := hQ.lt
  obtain ⟨z0, z1, z2, z3, z4, z5, z6, z7, r0, r1, r2, r3, r4, r5, r6, r7, y0, y1, y2, y3, y4, y5, y6, y7⟩ := hQ.facts
  have HB := Lib.hid (put8_below hbw (q := w.heap.size) (Nat.le_refl _) (.int .i64 0) (.int .i64 0) (.string ⟨#[]⟩) (.int .i64 0) (.string ⟨#[]⟩) (.slice none 0 0) (.slice none 0 0) (.slice none 0 0))
  clear hb hQ h8 hbw HB3 HT
  go_wp2_with fail
  exact bodyPost_ret (v := .tuple #[S3.sV zS (.slice none 0 0) (.slice none 0 0) (.slice none 0 0), .int .i64 ((i + 1 : Nat) : Int), .int .i64 7]) (by simp [results, Tryz.results118, go_sem, zS, r0, r1, r2, r3, r4, r5, r6, r7]) rfl ⟨rfl, HB.out⟩
end Go.Proofs.YtoldhocdfkndbaaGreatDoor.E6

namespace Go.Proofs.YtoldhocdfkndbaaGreatDoor.E6
open Go Go.RowKit Go.Proofs.YtoldhocdfkndbaaGreatDoor Go.Proofs.YtoldhocdfkndbaaGreatDoor.E5

set_option maxRecDepth 100000 in
set_option maxHeartbeats 8000000 in
theorem named_st {w : World} {l : TL} {v : Value} (hT : TokL w w.heap.size v l) (hll : l.length ≤ 1000000) (i : Nat) (hn : nmTok (tkAt l i) = true) (h1 : sgAt l (i + 1) = [91]) {e : Ex} {n : Nat} (hp : parseR l (i + 2) 0 = .ok e n) (h2 : sgAt l n = [93]) (h3 : sgAt l (n + 1) = [61]) :
    Calls Tryz.prog 118 #[v, .int .i64 (i : Int)] w (PostPS w (valS l (fun f => sStore (tkAt l i).2 e f) (n + 2))) := by
  have hi := nm_lt hn
  have hi1 := sgAt_lt h1 (by simp)
  have hn2' := sgAt_lt h2 (by simp)
  have hn3' := sgAt_lt h3 (by simp)
  have qa : (sgAt l (i + 1) == [40]) = false := by rw [h1]; rfl
  have qb : (sgAt l (i + 1) == [91]) = true := by rw [h1]; rfl
  have qc : (sgAt l n == [93]) = true := by rw [h2]; rfl
  have qd : (sgAt l (n + 1) == [61]) = true := by rw [h3]; rfl
  have hm1 : IntKind.i64.wrap ((n : Int) + 1) = (n : Int) + 1 := IntWalk.i64_in _ (by omega)
  have hm2 : IntKind.i64.wrap ((n : Int) + 2) = (n : Int) + 2 := IntWalk.i64_in _ (by omega)
  obtain ⟨TA, Tc, rfl⟩ := hT.val
  obtain ⟨_, htl, tb, og, ta, rfl, htb, t0, t1, t2⟩ := hT.at3 i hi
  have HT := Lib.hid hT
  have hlt' : (i : Int) < (l.length : Int) := by omega
  have hn1 : IntKind.i64.wrap ((i : Int) + 1) = (i : Int) + 1 := IntWalk.i64_in _ (by omega)
  have hn2 : IntKind.i64.wrap ((i : Int) + 2) = (i : Int) + 2 := IntWalk.i64_in _ (by omega)
  have hn3 : IntKind.i64.wrap ((i : Int) + 3) = (i : Int) + 3 := IntWalk.i64_in _ (by omega)
  generalize hx : (tkAt l i).2 = x at *
  have CP := Lib.hid (fun (W : World) (hb : Below w.heap.size w W) => by
    have h := rparse_calls (tokU HT.out hb) hll (i + 2) 0 (by omega) (by omega)
    rw [hp] at h
    exact h)
  clear hT hp hn h1 h2 h3
  go_enter Tryz.func118, Tryz.ntmps118
  try simp only [List.append_eq, List.cons_append, List.nil_append]
  go_wp2_with fail
  refine (sgn6 (tokU (tokU HT.out (S3.bal w _)) (S3.bal _ _)) qa (by first | decide | simp) (by omega)).mono ?_
  rintro E w1 ⟨rfl, hb⟩
  have HB1 := Lib.hid hb
  clear hb
  go_wp2_with fail
  refine (sgn6 (tokU (tokU (tokU HT.out (S3.bal w _)) (S3.bal _ _)) HB1.out) qb (by first | decide | simp) (by omega)).mono ?_
  rintro E w2 ⟨rfl, hb⟩
  have HB2 := Lib.hid (after HB1.out hb)
  clear hb HB1
  obtain ⟨_, _, hbw0⟩ := box2n w _ _ _ _ _ _ _ _ HB2.out
  go_wp2_with fail
  refine (CP.out w2 hbw0).mono ?_
  rintro E w3 ⟨A, k, c, rfl, ho, hE, hb⟩
  have HB3 := Lib.hid (after (after HB2.out hb) (S3.bal w3 (S3.eO e (.slice A k c))))
  have HE := Lib.hid hE
  have hsz23 := hb.size
  have hsz2 := HB2.out.size
  rw [S3.sz1, S3.sz1] at hsz2
  clear hb hE hbw0 CP HB2
  go_wp2_with fail
  refine (sgn6 (tokU (tokU (tokU HT.out (S3.bal w _)) (S3.bal _ _)) HB3.out) qc (by simp) (by omega)).mono ?_
  rintro E w4 ⟨rfl, hb⟩
  have HX4 := Lib.hid hb
  have HB4 := Lib.hid (after HB3.out hb)
  clear hb HB3
  go_wp2_with fail
  refine (sgn6 (tokU (tokU (tokU HT.out (S3.bal w _)) (S3.bal _ _)) HB4.out) qd (by simp) (by omega)).mono ?_
  rintro E w5 ⟨rfl, hb⟩
  have hx5 := after HX4.out hb
  have HB5 := Lib.hid (after HB4.out hb)
  clear hb HB4 HX4
  have he5 := (hx5.block w3.heap.size (by rw [S3.sz1]; omega)).trans (heap_alloc_new w3 (S3.eO e (.slice A k c)))
  have e0 : w5.cell? ⟨w3.heap.size, 0, none⟩ = some (.int .i64 e.kind) := (cell_of_row _ _ 0 _ _ _ he5).trans rfl
  have e1 : w5.cell? ⟨w3.heap.size, 1, none⟩ = some (.int .i64 e.op) := (cell_of_row _ _ 1 _ _ _ he5).trans rfl
  have e2 : w5.cell? ⟨w3.heap.size, 2, none⟩ = some (.int .i64 e.num) := (cell_of_row _ _ 2 _ _ _ he5).trans rfl
  have e3 : w5.cell? ⟨w3.heap.size, 3, none⟩ = some (.string (B e.name)) := (cell_of_row _ _ 3 _ _ _ he5).trans rfl
  have e4 : w5.cell? ⟨w3.heap.size, 4, none⟩ = some (.slice A k c) := (cell_of_row _ _ 4 _ _ _ he5).trans rfl
  have hsz5 := hx5.size
  rw [S3.sz1] at hsz5
  obtain ⟨h8, hQ, hbw⟩ := box2n w _ _ _ _ _ _ _ _ HB5.out
  obtain ⟨k0, k1, k2, k3, k4, k5, k6, k7⟩ := row8_facts h8
  have hq1 := hQ.lt
  have hp1 : w.heap.size + 1 < w5.heap.size := lt_of_block h8
  have x0 := froz0 h8
  have x5 := froz5 h8
  have hp3 : w.heap.size + 1 ≠ w3.heap.size := by omega
  have hsW1 : ((w5.setCell ⟨w.heap.size + 1, 0, none⟩ (.int .i64 3)).setCell ⟨w.heap.size + 1, 5, none⟩ (.slice (some ⟨w5.heap.size, 0, none⟩) 1 1)).heap.size = w5.heap.size := by simp [World.setCell]
  have hsW9 : (((w5.setCell ⟨w.heap.size + 1, 0, none⟩ (.int .i64 3)).setCell ⟨w.heap.size + 1, 5, none⟩ (.slice (some ⟨w5.heap.size, 0, none⟩) 1 1)).alloc (S3.eO e (.slice A k c))).heap.size = w5.heap.size + 1 := by rw [S3.sz1, hsW1]
  have hbw2 : Below w.heap.size w (((w5.setCell ⟨w.heap.size + 1, 0, none⟩ (.int .i64 3)).setCell ⟨w.heap.size + 1, 5, none⟩ (.slice (some ⟨w5.heap.size, 0, none⟩) 1 1)).alloc (S3.eO e (.slice A k c))) := (((hbw.setCell (p := ⟨w.heap.size + 1, 0, none⟩) (by show w.heap.size ≤ w.heap.size + 1; omega) (.int .i64 3))).setCell (p := ⟨w.heap.size + 1, 5, none⟩) (by show w.heap.size ≤ w.heap.size + 1; omega) _).alloc (by rw [hsW1]; omega) _
  have hQ2 : R8 (((w5.setCell ⟨w.heap.size + 1, 0, none⟩ (.int .i64 3)).setCell ⟨w.heap.size + 1, 5, none⟩ (.slice (some ⟨w5.heap.size, 0, none⟩) 1 1)).alloc (S3.eO e (.slice A k c))) w.heap.size := (((hQ.set (p := ⟨w.heap.size + 1, 0, none⟩) (by show w.heap.size + 1 ≠ _; omega) (.int .i64 3)).set (p := ⟨w.heap.size + 1, 5, none⟩) (by show w.heap.size + 1 ≠ _; omega) _)).bel (S3.bal _ _)
  have far : ∀ b j, Rn w2.heap.size w3.heap.size b → (((w5.setCell ⟨w.heap.size + 1, 0, none⟩ (.int .i64 3)).setCell ⟨w.heap.size + 1, 5, none⟩ (.slice (some ⟨w5.heap.size, 0, none⟩) 1 1)).alloc (S3.eO e (.slice A k c))).cell? ⟨b, j, none⟩ = w3.cell? ⟨b, j, none⟩ := fun b j hb => World.cell?_of_block (w := w3) (((S3.bal ((w5.setCell ⟨w.heap.size + 1, 0, none⟩ (.int .i64 3)).setCell ⟨w.heap.size + 1, 5, none⟩ (.slice (some ⟨w5.heap.size, 0, none⟩) 1 1)) _).block b (by rw [hsW1]; have := hb.2; omega)).trans ((Below.heap_setCell _ _ _ b (by have := hb.1; show b ≠ w.heap.size + 1; omega)).trans ((Below.heap_setCell _ _ _ b (by have := hb.1; show b ≠ w.heap.size + 1; omega)).trans ((hx5.block b (by rw [S3.sz1]; have := hb.2; omega)).trans ((S3.bal w3 _).block b hb.2)))))
  have hnew : (((w5.setCell ⟨w.heap.size + 1, 0, none⟩ (.int .i64 3)).setCell ⟨w.heap.size + 1, 5, none⟩ (.slice (some ⟨w5.heap.size, 0, none⟩) 1 1)).alloc (S3.eO e (.slice A k c))).heap[w5.heap.size]? = some (.cells #[.int .i64 e.kind, .int .i64 e.op, .int .i64 e.num, .string (B e.name), .slice A k c] 32 (0, 0)) := by have := heap_alloc_new ((w5.setCell ⟨w.heap.size + 1, 0, none⟩ (.int .i64 3)).setCell ⟨w.heap.size + 1, 5, none⟩ (.slice (some ⟨w5.heap.size, 0, none⟩) 1 1)) (S3.eO e (.slice A k c)); rw [hsW1] at this; exact this
  have hEA : S3.ER (((w5.setCell ⟨w.heap.size + 1, 0, none⟩ (.int .i64 3)).setCell ⟨w.heap.size + 1, 5, none⟩ (.slice (some ⟨w5.heap.size, 0, none⟩) 1 1)).alloc (S3.eO e (.slice A k c))) (fun b => Rn w2.heap.size w3.heap.size b ∨ b = w5.heap.size) [e] (.slice (some ⟨w5.heap.size, 0, none⟩) 1 1) := by
    refine S3.ER.mk [e] (some ⟨w5.heap.size, 0, none⟩) 1 (fun _ => .slice A k c) (by simp) (fun j y hy => ?_) (fun j y hy => ?_)
    · rcases j with _ | j
      · simp at hy; subst hy
        exact ⟨w5.heap.size, 0, rfl, .inr rfl, ho, (cell_of_row _ _ 0 _ _ _ hnew).trans rfl, (cell_of_row _ _ 1 _ _ _ hnew).trans rfl, (cell_of_row _ _ 2 _ _ _ hnew).trans rfl, (cell_of_row _ _ 3 _ _ _ hnew).trans rfl, (cell_of_row _ _ 4 _ _ _ hnew).trans rfl⟩
      · simp at hy
    · rcases j with _ | j
      · simp at hy; subst hy
        exact HE.out.keep (fun _ h => .inl h) far
      · simp at hy
  have hRR : ∀ b, (fun b => Rn w2.heap.size w3.heap.size b ∨ b = w5.heap.size) b → b < (((w5.setCell ⟨w.heap.size + 1, 0, none⟩ (.int .i64 3)).setCell ⟨w.heap.size + 1, 5, none⟩ (.slice (some ⟨w5.heap.size, 0, none⟩) 1 1)).alloc (S3.eO e (.slice A k c))).heap.size := fun b h => by
    rw [hsW9]
    rcases h with h | h
    · have := h.2; omega
    · omega
  have hI : S3.OkS ⟨3, 0, x, 0, [], [e], [], []⟩ := ⟨ok_i (k := 3) rfl, ok_i (k := 0) rfl, ok_i (k := 0) rfl, htl, by simp⟩
  have hRN : ∀ b, (fun b => Rn w2.heap.size w3.heap.size b ∨ b = w5.heap.size) b → w.heap.size < b ∧ b < (((w5.setCell ⟨w.heap.size + 1, 0, none⟩ (.int .i64 3)).setCell ⟨w.heap.size + 1, 5, none⟩ (.slice (some ⟨w5.heap.size, 0, none⟩) 1 1)).alloc (S3.eO e (.slice A k c))).heap.size := fun b h => ⟨by
    rcases h with h | h
    · have := h.1; omega
    · omega, hRR b h⟩
  have D := Lib.hid (valued6 (tokU HT.out hbw2) hll (R := (fun b => Rn w2.heap.size w3.heap.size b ∨ b = w5.heap.size)) hRR ⟨hI, hEA, S3.SR.nil none 0, S3.SR.nil none 0⟩ (push_one hEA hRR) (n + 2) (by omega) (fun f => sStore x e f) (fun _ => rfl))
  have HQ := Lib.hid hQ2
  have HB9 := Lib.hid hbw2
  have HRN := Lib.hid hRN
  clear h8 hQ hbw hbw2 hQ2 hI HT HB5 hRN hRR hEA hnew far hsW9 hsW1 HE ho he5 hx5
  go_wp2_with fail
  refine D.out.mono ?_
  intro E w10 hP
  cases hr : valS l (fun f => sStore x e f) (n + 2) with
  | bad j c' =>
    rw [hr] at hP
    have Hr := Lib.hid hr
    clear hr
    obtain ⟨rfl, hb⟩ := hP
    have hQ := HQ.out.bel hb
    have hq2 := hQ.lt
    obtain ⟨z0, z1, z2, z3, z4, z5, z6, z7, r0, r1, r2, r3, r4, r5, r6, r7, y0, y1, y2, y3, y4, y5, y6, y7⟩ := hQ.facts
    have HB := Lib.hid (put8_below (after HB9.out hb) (q := w.heap.size) (Nat.le_refl _) (.int .i64 0) (.int .i64 0) (.string ⟨#[]⟩) (.int .i64 0) (.string ⟨#[]⟩) (.slice none 0 0) (.slice none 0 0) (.slice none 0 0))
    clear hb hQ HQ HB9 D
    go_wp2_with fail
    exact bodyPost_ret (v := .tuple #[S3.sV zS (.slice none 0 0) (.slice none 0 0) (.slice none 0 0), .int .i64 (j : Int), .int .i64 c']) (by simp [results, Tryz.results118, go_sem, zS, r0, r1, r2, r3, r4, r5, r6, r7]) rfl (by rw [Hr.out]; exact ⟨rfl, HB.out⟩)
  | ok s2 m =>
    rw [hr] at hP
    have Hr := Lib.hid hr
    clear hr
    obtain ⟨va2, vb2, ve2, rfl, hS2, hb⟩ := hP
    obtain ⟨Aa2, ca2, rfl⟩ := hS2.a.slice
    obtain ⟨Ab2, cb2, rfl⟩ := hS2.b.slice
    obtain ⟨Ae2, ce2, rfl⟩ := hS2.e.slice
    have hQ := HQ.out.bel hb
    have hq2 := hQ.lt
    obtain ⟨z0, z1, z2, z3, z4, z5, z6, z7, r0, r1, r2, r3, r4, r5, r6, r7, y0, y1, y2, y3, y4, y5, y6, y7⟩ := hQ.facts
    have HB := Lib.hid (nfin s2 HB9.out HQ.out.lt HRN.out hS2 hb (.int .i64 s2.kind) (.int .i64 s2.no) (.string (S3.B s2.name)) (.int .i64 s2.typ) (.string (S3.B s2.callee)) (.slice Aa2 s2.args.length ca2) (.slice Ab2 s2.body.length cb2) (.slice Ae2 s2.els.length ce2))
    clear hb hQ HQ HB9 hS2 D
    go_wp2_with fail
    exact bodyPost_ret (v := .tuple #[(S3.sV s2 (.slice Aa2 s2.args.length ca2) (.slice Ab2 s2.body.length cb2) (.slice Ae2 s2.els.length ce2)), .int .i64 (m : Int), .int .i64 0]) (by simp [results, Tryz.results118, go_sem, r0, r1, r2, r3, r4, r5, r6, r7]) rfl (by rw [Hr.out]; exact ⟨_, _, _, rfl, HB.out.1, HB.out.2⟩)
end Go.Proofs.YtoldhocdfkndbaaGreatDoor.E6

namespace Go.Proofs.YtoldhocdfkndbaaGreatDoor.E6
open Go Go.RowKit Go.Proofs.YtoldhocdfkndbaaGreatDoor Go.Proofs.YtoldhocdfkndbaaGreatDoor.E5

set_option maxRecDepth 100000 in
set_option maxHeartbeats 8000000 in
theorem named_st1 {w : World} {l : TL} {v : Value} (hT : TokL w w.heap.size v l) (hll : l.length ≤ 1000000) (i : Nat) (hn : nmTok (tkAt l i) = true) (h1 : sgAt l (i + 1) = [91]) {j : Nat} {c : Int} (hp : parseR l (i + 2) 0 = .bad j c) :
    Calls Tryz.prog 118 #[v, .int .i64 (i : Int)] w (PostPS w (.bad j c)) := by
  have hi := nm_lt hn
  have hi1 := sgAt_lt h1 (by simp)
  have qa : (sgAt l (i + 1) == [40]) = false := by rw [h1]; rfl
  have qb : (sgAt l (i + 1) == [91]) = true := by rw [h1]; rfl
  have hq' : (c == 0) = false := beq_eq_false_iff_ne.2 (by rcases parse_code hp with h | h <;> omega)
  obtain ⟨TA, Tc, rfl⟩ := hT.val
  obtain ⟨_, htl, tb, og, ta, rfl, htb, t0, t1, t2⟩ := hT.at3 i hi
  have HT := Lib.hid hT
  have hlt' : (i : Int) < (l.length : Int) := by omega
  have hn1 : IntKind.i64.wrap ((i : Int) + 1) = (i : Int) + 1 := IntWalk.i64_in _ (by omega)
  have hn2 : IntKind.i64.wrap ((i : Int) + 2) = (i : Int) + 2 := IntWalk.i64_in _ (by omega)
  have hn3 : IntKind.i64.wrap ((i : Int) + 3) = (i : Int) + 3 := IntWalk.i64_in _ (by omega)
  generalize hx : (tkAt l i).2 = x at *
  have CP := Lib.hid (fun (W : World) (hb : Below w.heap.size w W) => by
    have h := rparse_calls (tokU HT.out hb) hll (i + 2) 0 (by omega) (by omega)
    rw [hp] at h
    exact h)
  clear hT hp hn h1
  go_enter Tryz.func118, Tryz.ntmps118
  try simp only [List.append_eq, List.cons_append, List.nil_append]
  go_wp2_with fail
  refine (sgn6 (tokU (tokU HT.out (S3.bal w _)) (S3.bal _ _)) qa (by first | decide | simp) (by omega)).mono ?_
  rintro E w1 ⟨rfl, hb⟩
  have HB1 := Lib.hid hb
  clear hb
  go_wp2_with fail
  refine (sgn6 (tokU (tokU (tokU HT.out (S3.bal w _)) (S3.bal _ _)) HB1.out) qb (by first | decide | simp) (by omega)).mono ?_
  rintro E w2 ⟨rfl, hb⟩
  have HB2 := Lib.hid (after HB1.out hb)
  clear hb HB1
  obtain ⟨_, _, hbw0⟩ := box2n w _ _ _ _ _ _ _ _ HB2.out
  go_wp2_with fail
  refine (CP.out w2 hbw0).mono ?_
  rintro E w3 ⟨rfl, hb⟩
  obtain ⟨h8, hQ, hbw⟩ := box2n w _ _ _ _ _ _ _ _ (after (after HB2.out hb) (S3.bal w3 (S3.eO zE (.slice none 0 0))))
  clear CP HB2 hbw0
  have hq2 := hQ.lt
  obtain ⟨z0, z1, z2, z3, z4, z5, z6, z7, r0, r1, r2, r3, r4, r5, r6, r7, y0, y1, y2, y3, y4, y5, y6, y7⟩ := hQ.facts
  have HB := Lib.hid (put8_below hbw (q := w.heap.size) (Nat.le_refl _) (.int .i64 0) (.int .i64 0) (.string ⟨#[]⟩) (.int .i64 0) (.string ⟨#[]⟩) (.slice none 0 0) (.slice none 0 0) (.slice none 0 0))
  clear hb hQ h8 hbw HT
  go_wp2_with fail
  exact bodyPost_ret (v := .tuple #[S3.sV zS (.slice none 0 0) (.slice none 0 0) (.slice none 0 0), .int .i64 (j : Int), .int .i64 c]) (by simp [results, Tryz.results118, go_sem, zS, r0, r1, r2, r3, r4, r5, r6, r7]) rfl ⟨rfl, HB.out⟩
set_option maxRecDepth 100000 in
set_option maxHeartbeats 8000000 in
theorem named_st2 {w : World} {l : TL} {v : Value} (hT : TokL w w.heap.size v l) (hll : l.length ≤ 1000000) (i : Nat) (hn : nmTok (tkAt l i) = true) (h1 : sgAt l (i + 1) = [91]) {e : Ex} {n : Nat} (hp : parseR l (i + 2) 0 = .ok e n) (h2 : sgAt l n ≠ [93]) :
    Calls Tryz.prog 118 #[v, .int .i64 (i : Int)] w (PostPS w (.bad n 7)) := by
  have hi := nm_lt hn
  have hi1 := sgAt_lt h1 (by simp)
  have qa : (sgAt l (i + 1) == [40]) = false := by rw [h1]; rfl
  have qb : (sgAt l (i + 1) == [91]) = true := by rw [h1]; rfl
  have hwin := parseR_within l (i + 2) 0 (by omega)
  rw [hp] at hwin
  simp only [Res.within] at hwin
  have qc : (sgAt l n == [93]) = false := beq_eq_false_iff_ne.2 h2
  obtain ⟨TA, Tc, rfl⟩ := hT.val
  obtain ⟨_, htl, tb, og, ta, rfl, htb, t0, t1, t2⟩ := hT.at3 i hi
  have HT := Lib.hid hT
  have hlt' : (i : Int) < (l.length : Int) := by omega
  have hn1 : IntKind.i64.wrap ((i : Int) + 1) = (i : Int) + 1 := IntWalk.i64_in _ (by omega)
  have hn2 : IntKind.i64.wrap ((i : Int) + 2) = (i : Int) + 2 := IntWalk.i64_in _ (by omega)
  have hn3 : IntKind.i64.wrap ((i : Int) + 3) = (i : Int) + 3 := IntWalk.i64_in _ (by omega)
  generalize hx : (tkAt l i).2 = x at *
  have CP := Lib.hid (fun (W : World) (hb : Below w.heap.size w W) => by
    have h := rparse_calls (tokU HT.out hb) hll (i + 2) 0 (by omega) (by omega)
    rw [hp] at h
    exact h)
  clear hT hp hn h1 h2
  go_enter Tryz.func118, Tryz.ntmps118
  try simp only [List.append_eq, List.cons_append, List.nil_append]
  go_wp2_with fail
  refine (sgn6 (tokU (tokU HT.out (S3.bal w _)) (S3.bal _ _)) qa (by first | decide | simp) (by omega)).mono ?_
  rintro E w1 ⟨rfl, hb⟩
  have HB1 := Lib.hid hb
  clear hb
  go_wp2_with fail
  refine (sgn6 (tokU (tokU (tokU HT.out (S3.bal w _)) (S3.bal _ _)) HB1.out) qb (by first | decide | simp) (by omega)).mono ?_
  rintro E w2 ⟨rfl, hb⟩
  have HB2 := Lib.hid (after HB1.out hb)
  clear hb HB1
  obtain ⟨_, _, hbw0⟩ := box2n w _ _ _ _ _ _ _ _ HB2.out
  go_wp2_with fail
  refine (CP.out w2 hbw0).mono ?_
  rintro E w3 ⟨A, k, c, rfl, ho, hE, hb⟩
  have HB3 := Lib.hid (after (after HB2.out hb) (S3.bal w3 (S3.eO e (.slice A k c))))
  clear hb hE hbw0 CP HB2 ho
  go_wp2_with fail
  refine (sgn6 (tokU (tokU (tokU HT.out (S3.bal w _)) (S3.bal _ _)) HB3.out) qc (by simp) (by omega)).mono ?_
  rintro E w4 ⟨rfl, hb⟩
  have HB4 := Lib.hid (after HB3.out hb)
  clear hb HB3
  go_wp2_with fail
  refine (wrong6 _ _).mono ?_
  rintro E w5 ⟨rfl, hb⟩
  obtain ⟨h8, hQ, hbw⟩ := box2n w _ _ _ _ _ _ _ _ (after HB4.out hb)
  clear HB4
  have hq2 := hQ.lt
  obtain ⟨z0, z1, z2, z3, z4, z5, z6, z7, r0, r1, r2, r3, r4, r5, r6, r7, y0, y1, y2, y3, y4, y5, y6, y7⟩ := hQ.facts
  have HB := Lib.hid (put8_below hbw (q := w.heap.size) (Nat.le_refl _) (.int .i64 0) (.int .i64 0) (.string ⟨#[]⟩) (.int .i64 0) (.string ⟨#[]⟩) (.slice none 0 0) (.slice none 0 0) (.slice none 0 0))
  clear hb hQ h8 hbw HT
  go_wp2_with fail
  exact bodyPost_ret (v := .tuple #[S3.sV zS (.slice none 0 0) (.slice none 0 0) (.slice none 0 0), .int .i64 (n : Int), .int .i64 7]) (by simp [results, Tryz.results118, go_sem, zS, r0, r1, r2, r3, r4, r5, r6, r7]) rfl ⟨rfl, HB.out⟩
set_option maxRecDepth 100000 in
set_option maxHeartbeats 8000000 in
theorem named_st3 {w : World} {l : TL} {v : Value} (hT : TokL w w.heap.size v l) (hll : l.length ≤ 1000000) (i : Nat) (hn : nmTok (tkAt l i) = true) (h1 : sgAt l (i + 1) = [91]) {e : Ex} {n : Nat} (hp : parseR l (i + 2) 0 = .ok e n) (h2 : sgAt l n = [93]) (h3 : sgAt l (n + 1) ≠ [61]) :
    Calls Tryz.prog 118 #[v, .int .i64 (i : Int)] w (PostPS w (.bad (n + 1) 7)) := by
  have hi := nm_lt hn
  have hi1 := sgAt_lt h1 (by simp)
  have qa : (sgAt l (i + 1) == [40]) = false := by rw [h1]; rfl
  have qb : (sgAt l (i + 1) == [91]) = true := by rw [h1]; rfl
  have hwin := parseR_within l (i + 2) 0 (by omega)
  rw [hp] at hwin
  simp only [Res.within] at hwin
  have hn2' := sgAt_lt h2 (by simp)
  have qc : (sgAt l n == [93]) = true := by rw [h2]; rfl
  have qd : (sgAt l (n + 1) == [61]) = false := beq_eq_false_iff_ne.2 h3
  have hm1 : IntKind.i64.wrap ((n : Int) + 1) = (n : Int) + 1 := IntWalk.i64_in _ (by omega)
  obtain ⟨TA, Tc, rfl⟩ := hT.val
  obtain ⟨_, htl, tb, og, ta, rfl, htb, t0, t1, t2⟩ := hT.at3 i hi
  have HT := Lib.hid hT
  have hlt' : (i : Int) < (l.length : Int) := by omega
  have hn1 : IntKind.i64.wrap ((i : Int) + 1) = (i : Int) + 1 := IntWalk.i64_in _ (by omega)
  have hn2 : IntKind.i64.wrap ((i : Int) + 2) = (i : Int) + 2 := IntWalk.i64_in _ (by omega)
  have hn3 : IntKind.i64.wrap ((i : Int) + 3) = (i : Int) + 3 := IntWalk.i64_in _ (by omega)
  generalize hx : (tkAt l i).2 = x at *
  have CP := Lib.hid (fun (W : World) (hb : Below w.heap.size w W) => by
    have h := rparse_calls (tokU HT.out hb) hll (i + 2) 0 (by omega) (by omega)
    rw [hp] at h
    exact h)
  clear hT hp hn h1 h2 h3
  go_enter Tryz.func118, Tryz.ntmps118
  try simp only [List.append_eq, List.cons_append, List.nil_append]
  go_wp2_with fail
  refine (sgn6 (tokU (tokU HT.out (S3.bal w _)) (S3.bal _ _)) qa (by first | decide | simp) (by omega)).mono ?_
  rintro E w1 ⟨rfl, hb⟩
  have HB1 := Lib.hid hb
  clear hb
  go_wp2_with fail
  refine (sgn6 (tokU (tokU (tokU HT.out (S3.bal w _)) (S3.bal _ _)) HB1.out) qb (by first | decide | simp) (by omega)).mono ?_
  rintro E w2 ⟨rfl, hb⟩
  have HB2 := Lib.hid (after HB1.out hb)
  clear hb HB1
  obtain ⟨_, _, hbw0⟩ := box2n w _ _ _ _ _ _ _ _ HB2.out
  go_wp2_with fail
  refine (CP.out w2 hbw0).mono ?_
  rintro E w3 ⟨A, k, c, rfl, ho, hE, hb⟩
  have HB3 := Lib.hid (after (after HB2.out hb) (S3.bal w3 (S3.eO e (.slice A k c))))
  clear hb hE hbw0 CP HB2 ho
  go_wp2_with fail
  refine (sgn6 (tokU (tokU (tokU HT.out (S3.bal w _)) (S3.bal _ _)) HB3.out) qc (by simp) (by omega)).mono ?_
  rintro E w4 ⟨rfl, hb⟩
  have HB4 := Lib.hid (after HB3.out hb)
  clear hb HB3
  go_wp2_with fail
  refine (sgn6 (tokU (tokU (tokU HT.out (S3.bal w _)) (S3.bal _ _)) HB4.out) qd (by simp) (by omega)).mono ?_
  rintro E w5 ⟨rfl, hb⟩
  have HB5 := Lib.hid (after HB4.out hb)
  clear hb HB4
  go_wp2_with fail
  refine (wrong6 _ _).mono ?_
  rintro E w6 ⟨rfl, hb⟩
  obtain ⟨h8, hQ, hbw⟩ := box2n w _ _ _ _ _ _ _ _ (after HB5.out hb)
  clear HB5
  have hq2 := hQ.lt
  obtain ⟨z0, z1, z2, z3, z4, z5, z6, z7, r0, r1, r2, r3, r4, r5, r6, r7, y0, y1, y2, y3, y4, y5, y6, y7⟩ := hQ.facts
  have HB := Lib.hid (put8_below hbw (q := w.heap.size) (Nat.le_refl _) (.int .i64 0) (.int .i64 0) (.string ⟨#[]⟩) (.int .i64 0) (.string ⟨#[]⟩) (.slice none 0 0) (.slice none 0 0) (.slice none 0 0))
  clear hb hQ h8 hbw HT
  go_wp2_with fail
  exact bodyPost_ret (v := .tuple #[S3.sV zS (.slice none 0 0) (.slice none 0 0) (.slice none 0 0), .int .i64 (((n + 1 : Nat) : Int) : Int), .int .i64 7]) (by simp [results, Tryz.results118, go_sem, zS, r0, r1, r2, r3, r4, r5, r6, r7]) rfl ⟨rfl, HB.out⟩
end Go.Proofs.YtoldhocdfkndbaaGreatDoor.E6

namespace Go.Proofs.YtoldhocdfkndbaaGreatDoor.E6
open Go Go.RowKit Go.Proofs.YtoldhocdfkndbaaGreatDoor Go.Proofs.YtoldhocdfkndbaaGreatDoor.E5

theorem parse_noname {l : TL} {k : Nat} (h1 : (tkAt l k).1 = 1) (h2 : nmTok (tkAt l k) = false) : parseR l k 0 = .bad k 7 := by
  have hk := kind_lt (l := l) (i := k) (by omega)
  have hb : S3.nameB (tkAt l k).2 = false := by simpa [nmTok, h1] using h2
  rw [parseR_is, binR_eq l k 0 1 (by omega) (by omega), opdR_eq l k 0 (by omega), if_neg (by omega), if_pos h1, hb]
  rfl
theorem named6 {w : World} {l : TL} {v : Value} (hT : TokL w w.heap.size v l) (hll : l.length ≤ 1000000) (i : Nat) (hn : nmTok (tkAt l i) = true) :
    Calls Tryz.prog 118 #[v, .int .i64 (i : Int)] w (PostPS w (namS l i)) := by
  unfold namS
  rw [if_pos hn]
  by_cases h1 : sgAt l (i + 1) = [61]
  · rw [if_pos h1]
    unfold asgS
    by_cases h2 : kwAt l (i + 2) = wNew
    · rw [if_pos h2]; exact named_new hT hll i hn h1 h2
    · rw [if_neg h2]
      cases h3 : nmTok (tkAt l (i + 2)) with
      | true =>
        have hk : (tkAt l (i + 2)).1 = 1 := by unfold nmTok at h3; simp at h3; exact h3.1
        by_cases h4 : sgAt l (i + 3) = [40]
        · rw [if_pos ⟨hk, h4⟩, if_pos rfl]; exact named_res hT hll i hn h1 h2 h3 h4
        · rw [if_neg (fun h => h4 h.2)]; exact named_set2 hT hll i hn h1 h2 h3 h4
      | false =>
        have hS := named_set1 hT hll i hn h1 h2 h3
        by_cases h5 : (tkAt l (i + 2)).1 = 1 ∧ sgAt l (i + 2 + 1) = [40]
        · rw [if_pos h5, if_neg (by simp)]
          unfold valS at hS
          rw [parse_noname h5.1 h3] at hS
          exact hS
        · rw [if_neg h5]; exact hS
  · rw [if_neg h1]
    by_cases h2 : sgAt l (i + 1) = [91]
    · rw [if_pos h2]
      unfold storS
      cases hp : parseR l (i + 2) 0 with
      | bad j c => exact named_st1 hT hll i hn h2 hp
      | ok e n =>
        simp only
        by_cases h3 : sgAt l n = [93]
        · rw [if_pos h3]
          by_cases h4 : sgAt l (n + 1) = [61]
          · rw [if_pos h4]; exact named_st hT hll i hn h2 hp h3 h4
          · rw [if_neg h4]; exact named_st3 hT hll i hn h2 hp h3 h4
        · rw [if_neg h3]; exact named_st2 hT hll i hn h2 hp h3
    · rw [if_neg h2]
      by_cases h3 : sgAt l (i + 1) = [40]
      · exact named_call hT hll i hn h3
      · have hb := named_bad hT hll i hn h3 h2 h1
        unfold argS listR
        rw [if_neg h3]
        exact hb
end Go.Proofs.YtoldhocdfkndbaaGreatDoor.E6

namespace Go.Proofs.YtoldhocdfkndbaaGreatDoor.E6
open Go Go.RowKit Go.Proofs.YtoldhocdfkndbaaGreatDoor Go.Proofs.YtoldhocdfkndbaaGreatDoor.E5

theorem postZ_of {W w' : World} {r : RS} {E : Ending} (h : PostPS W r E w') : PostZ NoR W r E w' := by
  cases r with
  | bad j c => exact h
  | ok s n =>
    obtain ⟨va, vb, ve, h1, h2, h3⟩ := h
    exact ⟨va, vb, ve, h1, h2.keep (fun _ h => .inr h) fun _ _ _ => rfl, h3⟩
theorem box1 (w : World) {w1 : World} (hb : Below (w.alloc sZ).heap.size (w.alloc sZ) w1) : R8 w1 w.heap.size ∧ Below w.heap.size w w1 :=
  ⟨(R8.new w _ _ _ _ _ _ _ _).bel hb, after (S3.bal w sZ) hb⟩
set_option maxRecDepth 100000 in
set_option maxHeartbeats 8000000 in
theorem stmt_print {w : World} {l : TL} {v : Value} (hT : TokL w w.heap.size v l) (hll : l.length ≤ 1000000) (i d : Nat) (h : kwAt l i = wPrint) :
    Calls Tryz.prog 81 #[v, .int .i64 (i : Int), .int .i64 (d : Int)] w (PostPS w (valS l sPrint (i + 1))) := by
  have hi : i < l.length := kwAt_lt h (by decide)
  have q0 : (kwAt l i == wVar) = false := by rw [h]; rfl
  have q1 : (kwAt l i == wRead) = false := by rw [h]; rfl
  have q2 : (kwAt l i == wPrint) = true := by rw [h]; rfl
  obtain ⟨TA, Tc, rfl⟩ := hT.val
  have HT := Lib.hid hT
  have hn1 : IntKind.i64.wrap ((i : Int) + 1) = (i : Int) + 1 := IntWalk.i64_in _ (by omega)
  have hn2 : IntKind.i64.wrap ((i : Int) + 2) = (i : Int) + 2 := IntWalk.i64_in _ (by omega)
  clear hT h
  go_enter Tryz.func81, Tryz.ntmps81
  try simp only [List.append_eq, List.cons_append, List.nil_append]
  go_wp2_with fail
  refine (kw6 (tokU HT.out (S3.bal w _)) q0 (by first | decide | simp) (by omega)).mono ?_
  rintro E w1 ⟨rfl, hb⟩
  have HB1 := Lib.hid hb
  clear hb
  go_wp2_with fail
  refine (kw6 (tokU (tokU HT.out (S3.bal w _)) HB1.out) q1 (by first | decide | simp) (by omega)).mono ?_
  rintro E w2 ⟨rfl, hb⟩
  have HB2 := Lib.hid (after HB1.out hb)
  clear hb HB1
  go_wp2_with fail
  refine (kw6 (tokU (tokU HT.out (S3.bal w _)) HB2.out) q2 (by first | decide | simp) (by omega)).mono ?_
  rintro E w3 ⟨rfl, hb⟩
  have HB3 := Lib.hid (after HB2.out hb)
  clear hb HB2
  obtain ⟨hQ, hbw⟩ := box1 w HB3.out
  have hq1 := hQ.lt
  have D := Lib.hid (valued6 (tokU HT.out hbw) hll (R := NoR) (fun _ h => h.elim) (is_empty w3 (s := ⟨6, 0, [], 0, [], [], [], []⟩) ⟨ok_i (k := 6) rfl, ok_i (k := 0) rfl, ok_i (k := 0) rfl, by simp, by simp⟩ rfl rfl rfl) (push_nil _ _) (i + 1) (by omega) (sPrint) (fun _ => rfl))
  have HQ := Lib.hid hQ
  have HB9 := Lib.hid hbw
  clear hQ hbw HT HB3
  go_wp2_with fail
  refine D.out.mono ?_
  intro E w10 hP
  cases hr : valS l sPrint (i + 1) with
  | bad j c' =>
    rw [hr] at hP
    have Hr := Lib.hid hr
    clear hr
    obtain ⟨rfl, hb⟩ := hP
    have hQ := HQ.out.bel hb
    have hq2 := hQ.lt
    obtain ⟨z0, z1, z2, z3, z4, z5, z6, z7, r0, r1, r2, r3, r4, r5, r6, r7, y0, y1, y2, y3, y4, y5, y6, y7⟩ := hQ.facts
    have HB := Lib.hid (put8_below (after HB9.out hb) (q := w.heap.size) (Nat.le_refl _) (.int .i64 0) (.int .i64 0) (.string ⟨#[]⟩) (.int .i64 0) (.string ⟨#[]⟩) (.slice none 0 0) (.slice none 0 0) (.slice none 0 0))
    clear hb hQ HQ HB9 D
    go_wp2_with fail
    exact bodyPost_ret (v := .tuple #[S3.sV zS (.slice none 0 0) (.slice none 0 0) (.slice none 0 0), .int .i64 (j : Int), .int .i64 c']) (by simp [results, Tryz.results81, go_sem, zS, r0, r1, r2, r3, r4, r5, r6, r7]) rfl (by rw [Hr.out]; exact ⟨rfl, HB.out⟩)
  | ok s2 m =>
    rw [hr] at hP
    have Hr := Lib.hid hr
    clear hr
    obtain ⟨va2, vb2, ve2, rfl, hS2, hb⟩ := hP
    obtain ⟨Aa2, ca2, rfl⟩ := hS2.a.slice
    obtain ⟨Ab2, cb2, rfl⟩ := hS2.b.slice
    obtain ⟨Ae2, ce2, rfl⟩ := hS2.e.slice
    have hQ := HQ.out.bel hb
    have hq2 := hQ.lt
    obtain ⟨z0, z1, z2, z3, z4, z5, z6, z7, r0, r1, r2, r3, r4, r5, r6, r7, y0, y1, y2, y3, y4, y5, y6, y7⟩ := hQ.facts
    have HB := Lib.hid (nfin (R := NoR) s2 HB9.out HQ.out.lt (fun _ h => h.elim) hS2 hb (.int .i64 s2.kind) (.int .i64 s2.no) (.string (S3.B s2.name)) (.int .i64 s2.typ) (.string (S3.B s2.callee)) (.slice Aa2 s2.args.length ca2) (.slice Ab2 s2.body.length cb2) (.slice Ae2 s2.els.length ce2))
    clear hb hQ HQ HB9 hS2 D
    go_wp2_with fail
    exact bodyPost_ret (v := .tuple #[(S3.sV s2 (.slice Aa2 s2.args.length ca2) (.slice Ab2 s2.body.length cb2) (.slice Ae2 s2.els.length ce2)), .int .i64 (m : Int), .int .i64 0]) (by simp [results, Tryz.results81, go_sem, r0, r1, r2, r3, r4, r5, r6, r7]) rfl (by rw [Hr.out]; exact ⟨_, _, _, rfl, HB.out.1, HB.out.2⟩)
set_option maxRecDepth 100000 in
set_option maxHeartbeats 8000000 in
theorem stmt_ret {w : World} {l : TL} {v : Value} (hT : TokL w w.heap.size v l) (hll : l.length ≤ 1000000) (i d : Nat) (h : kwAt l i = wReturn) (h2 : sgAt l (i + 1) ≠ [59]) :
    Calls Tryz.prog 81 #[v, .int .i64 (i : Int), .int .i64 (d : Int)] w (PostPS w (valS l (fun e => sRet [e]) (i + 1))) := by
  have hi : i < l.length := kwAt_lt h (by decide)
  have q0 : (kwAt l i == wVar) = false := by rw [h]; rfl
  have q1 : (kwAt l i == wRead) = false := by rw [h]; rfl
  have q2 : (kwAt l i == wPrint) = false := by rw [h]; rfl
  have q3 : (kwAt l i == wReturn) = true := by rw [h]; rfl
  have qs : (sgAt l (i + 1) == [59]) = false := beq_eq_false_iff_ne.2 h2
  obtain ⟨TA, Tc, rfl⟩ := hT.val
  have HT := Lib.hid hT
  have hn1 : IntKind.i64.wrap ((i : Int) + 1) = (i : Int) + 1 := IntWalk.i64_in _ (by omega)
  have hn2 : IntKind.i64.wrap ((i : Int) + 2) = (i : Int) + 2 := IntWalk.i64_in _ (by omega)
  clear hT h h2
  go_enter Tryz.func81, Tryz.ntmps81
  try simp only [List.append_eq, List.cons_append, List.nil_append]
  go_wp2_with fail
  refine (kw6 (tokU HT.out (S3.bal w _)) q0 (by first | decide | simp) (by omega)).mono ?_
  rintro E w1 ⟨rfl, hb⟩
  have HB1 := Lib.hid hb
  clear hb
  go_wp2_with fail
  refine (kw6 (tokU (tokU HT.out (S3.bal w _)) HB1.out) q1 (by first | decide | simp) (by omega)).mono ?_
  rintro E w2 ⟨rfl, hb⟩
  have HB2 := Lib.hid (after HB1.out hb)
  clear hb HB1
  go_wp2_with fail
  refine (kw6 (tokU (tokU HT.out (S3.bal w _)) HB2.out) q2 (by first | decide | simp) (by omega)).mono ?_
  rintro E w3 ⟨rfl, hb⟩
  have HB3 := Lib.hid (after HB2.out hb)
  clear hb HB2
  go_wp2_with fail
  refine (kw6 (tokU (tokU HT.out (S3.bal w _)) HB3.out) q3 (by first | decide | simp) (by omega)).mono ?_
  rintro E w4 ⟨rfl, hb⟩
  have HB4 := Lib.hid (after HB3.out hb)
  clear hb HB3
  go_wp2_with fail
  refine (sgn6 (tokU (tokU HT.out (S3.bal w _)) HB4.out) qs (by first | decide | simp) (by omega)).mono ?_
  rintro E w5 ⟨rfl, hb⟩
  have HB5 := Lib.hid (after HB4.out hb)
  clear hb HB4
  go_wp2_with fail
  refine (kw6 (tokU (tokU HT.out (S3.bal w _)) HB5.out) q3 (by first | decide | simp) (by omega)).mono ?_
  rintro E w6 ⟨rfl, hb⟩
  have HB6 := Lib.hid (after HB5.out hb)
  clear hb HB5
  obtain ⟨hQ, hbw⟩ := box1 w HB6.out
  have hq1 := hQ.lt
  have D := Lib.hid (valued6 (tokU HT.out hbw) hll (R := NoR) (fun _ h => h.elim) (is_empty w6 (s := ⟨8, 0, [], 0, [], [], [], []⟩) ⟨ok_i (k := 8) rfl, ok_i (k := 0) rfl, ok_i (k := 0) rfl, by simp, by simp⟩ rfl rfl rfl) (push_nil _ _) (i + 1) (by omega) (fun e => sRet [e]) (fun _ => rfl))
  have HQ := Lib.hid hQ
  have HB9 := Lib.hid hbw
  clear hQ hbw HT HB6
  go_wp2_with fail
  refine D.out.mono ?_
  intro E w10 hP
  cases hr : valS l (fun e => sRet [e]) (i + 1) with
  | bad j c' =>
    rw [hr] at hP
    have Hr := Lib.hid hr
    clear hr
    obtain ⟨rfl, hb⟩ := hP
    have hQ := HQ.out.bel hb
    have hq2 := hQ.lt
    obtain ⟨z0, z1, z2, z3, z4, z5, z6, z7, r0, r1, r2, r3, r4, r5, r6, r7, y0, y1, y2, y3, y4, y5, y6, y7⟩ := hQ.facts
    have HB := Lib.hid (put8_below (after HB9.out hb) (q := w.heap.size) (Nat.le_refl _) (.int .i64 0) (.int .i64 0) (.string ⟨#[]⟩) (.int .i64 0) (.string ⟨#[]⟩) (.slice none 0 0) (.slice none 0 0) (.slice none 0 0))
    clear hb hQ HQ HB9 D
    go_wp2_with fail
    exact bodyPost_ret (v := .tuple #[S3.sV zS (.slice none 0 0) (.slice none 0 0) (.slice none 0 0), .int .i64 (j : Int), .int .i64 c']) (by simp [results, Tryz.results81, go_sem, zS, r0, r1, r2, r3, r4, r5, r6, r7]) rfl (by rw [Hr.out]; exact ⟨rfl, HB.out⟩)
  | ok s2 m =>
    rw [hr] at hP
    have Hr := Lib.hid hr
    clear hr
    obtain ⟨va2, vb2, ve2, rfl, hS2, hb⟩ := hP
    obtain ⟨Aa2, ca2, rfl⟩ := hS2.a.slice
    obtain ⟨Ab2, cb2, rfl⟩ := hS2.b.slice
    obtain ⟨Ae2, ce2, rfl⟩ := hS2.e.slice
    have hQ := HQ.out.bel hb
    have hq2 := hQ.lt
    obtain ⟨z0, z1, z2, z3, z4, z5, z6, z7, r0, r1, r2, r3, r4, r5, r6, r7, y0, y1, y2, y3, y4, y5, y6, y7⟩ := hQ.facts
    have HB := Lib.hid (nfin (R := NoR) s2 HB9.out HQ.out.lt (fun _ h => h.elim) hS2 hb (.int .i64 s2.kind) (.int .i64 s2.no) (.string (S3.B s2.name)) (.int .i64 s2.typ) (.string (S3.B s2.callee)) (.slice Aa2 s2.args.length ca2) (.slice Ab2 s2.body.length cb2) (.slice Ae2 s2.els.length ce2))
    clear hb hQ HQ HB9 hS2 D
    go_wp2_with fail
    exact bodyPost_ret (v := .tuple #[(S3.sV s2 (.slice Aa2 s2.args.length ca2) (.slice Ab2 s2.body.length cb2) (.slice Ae2 s2.els.length ce2)), .int .i64 (m : Int), .int .i64 0]) (by simp [results, Tryz.results81, go_sem, r0, r1, r2, r3, r4, r5, r6, r7]) rfl (by rw [Hr.out]; exact ⟨_, _, _, rfl, HB.out.1, HB.out.2⟩)
set_option maxRecDepth 100000 in
set_option maxHeartbeats 8000000 in
theorem stmt_named {w : World} {l : TL} {v : Value} (hT : TokL w w.heap.size v l) (hll : l.length ≤ 1000000) (i d : Nat) (hn : nmTok (tkAt l i) = true) :
    Calls Tryz.prog 81 #[v, .int .i64 (i : Int), .int .i64 (d : Int)] w (PostPS w (namS l i)) := by
  have hi := nm_lt hn
  have hk : kwAt l i = [] := by unfold nmTok at hn; simp at hn; unfold kwAt; rw [if_neg (by omega)]
  have q0 : (kwAt l i == wVar) = false := by rw [hk]; rfl
  have q1 : (kwAt l i == wRead) = false := by rw [hk]; rfl
  have q2 : (kwAt l i == wPrint) = false := by rw [hk]; rfl
  have q3 : (kwAt l i == wReturn) = false := by rw [hk]; rfl
  have q4 : (kwAt l i == wIf) = false := by rw [hk]; rfl
  have q5 : (kwAt l i == wWhile) = false := by rw [hk]; rfl
  obtain ⟨TA, Tc, rfl⟩ := hT.val
  have HT := Lib.hid hT
  have hn1 : IntKind.i64.wrap ((i : Int) + 1) = (i : Int) + 1 := IntWalk.i64_in _ (by omega)
  have hn2 : IntKind.i64.wrap ((i : Int) + 2) = (i : Int) + 2 := IntWalk.i64_in _ (by omega)
  clear hT hk
  go_enter Tryz.func81, Tryz.ntmps81
  try simp only [List.append_eq, List.cons_append, List.nil_append]
  go_wp2_with fail
  refine (kw6 (tokU HT.out (S3.bal w _)) q0 (by first | decide | simp) (by omega)).mono ?_
  rintro E w1 ⟨rfl, hb⟩
  have HB1 := Lib.hid hb
  clear hb
  go_wp2_with fail
  refine (kw6 (tokU (tokU HT.out (S3.bal w _)) HB1.out) q1 (by first | decide | simp) (by omega)).mono ?_
  rintro E w2 ⟨rfl, hb⟩
  have HB2 := Lib.hid (after HB1.out hb)
  clear hb HB1
  go_wp2_with fail
  refine (kw6 (tokU (tokU HT.out (S3.bal w _)) HB2.out) q2 (by first | decide | simp) (by omega)).mono ?_
  rintro E w3 ⟨rfl, hb⟩
  have HB3 := Lib.hid (after HB2.out hb)
  clear hb HB2
  go_wp2_with fail
  refine (kw6 (tokU (tokU HT.out (S3.bal w _)) HB3.out) q3 (by first | decide | simp) (by omega)).mono ?_
  rintro E w4 ⟨rfl, hb⟩
  have HB4 := Lib.hid (after HB3.out hb)
  clear hb HB3
  go_wp2_with fail
  refine (kw6 (tokU (tokU HT.out (S3.bal w _)) HB4.out) q3 (by first | decide | simp) (by omega)).mono ?_
  rintro E w5 ⟨rfl, hb⟩
  have HB5 := Lib.hid (after HB4.out hb)
  clear hb HB4
  go_wp2_with fail
  refine (kw6 (tokU (tokU HT.out (S3.bal w _)) HB5.out) q4 (by first | decide | simp) (by omega)).mono ?_
  rintro E w6 ⟨rfl, hb⟩
  have HB6 := Lib.hid (after HB5.out hb)
  clear hb HB5
  go_wp2_with fail
  refine (kw6 (tokU (tokU HT.out (S3.bal w _)) HB6.out) q5 (by first | decide | simp) (by omega)).mono ?_
  rintro E w7 ⟨rfl, hb⟩
  have HB7 := Lib.hid (after HB6.out hb)
  clear hb HB6
  go_wp2_with fail
  refine (nam6 (tokU (tokU HT.out (S3.bal w _)) HB7.out) hn (by omega)).mono ?_
  rintro E w8 ⟨rfl, hb⟩
  have HB8 := Lib.hid (after HB7.out hb)
  clear hb HB7
  obtain ⟨hQ, hbw⟩ := box1 w HB8.out
  have hq1 := hQ.lt
  have D := Lib.hid ((named6 (tokU HT.out hbw) hll i hn).mono fun _ _ h => postZ_of h)
  have HQ := Lib.hid hQ
  have HB9 := Lib.hid hbw
  clear hQ hbw HT HB8
  go_wp2_with fail
  refine D.out.mono ?_
  intro E w10 hP
  cases hr : namS l i with
  | bad j c' =>
    rw [hr] at hP
    have Hr := Lib.hid hr
    clear hr
    obtain ⟨rfl, hb⟩ := hP
    have hQ := HQ.out.bel hb
    have hq2 := hQ.lt
    obtain ⟨z0, z1, z2, z3, z4, z5, z6, z7, r0, r1, r2, r3, r4, r5, r6, r7, y0, y1, y2, y3, y4, y5, y6, y7⟩ := hQ.facts
    have HB := Lib.hid (put8_below (after HB9.out hb) (q := w.heap.size) (Nat.le_refl _) (.int .i64 0) (.int .i64 0) (.string ⟨#[]⟩) (.int .i64 0) (.string ⟨#[]⟩) (.slice none 0 0) (.slice none 0 0) (.slice none 0 0))
    clear hb hQ HQ HB9 D
    go_wp2_with fail
    exact bodyPost_ret (v := .tuple #[S3.sV zS (.slice none 0 0) (.slice none 0 0) (.slice none 0 0), .int .i64 (j : Int), .int .i64 c']) (by simp [results, Tryz.results81, go_sem, zS, r0, r1, r2, r3, r4, r5, r6, r7]) rfl (by rw [Hr.out]; exact ⟨rfl, HB.out⟩)
  | ok s2 m =>
    rw [hr] at hP
    have Hr := Lib.hid hr
    clear hr
    obtain ⟨va2, vb2, ve2, rfl, hS2, hb⟩ := hP
    obtain ⟨Aa2, ca2, rfl⟩ := hS2.a.slice
    obtain ⟨Ab2, cb2, rfl⟩ := hS2.b.slice
    obtain ⟨Ae2, ce2, rfl⟩ := hS2.e.slice
    have hQ := HQ.out.bel hb
    have hq2 := hQ.lt
    obtain ⟨z0, z1, z2, z3, z4, z5, z6, z7, r0, r1, r2, r3, r4, r5, r6, r7, y0, y1, y2, y3, y4, y5, y6, y7⟩ := hQ.facts
    have HB := Lib.hid (nfin (R := NoR) s2 HB9.out HQ.out.lt (fun _ h => h.elim) hS2 hb (.int .i64 s2.kind) (.int .i64 s2.no) (.string (S3.B s2.name)) (.int .i64 s2.typ) (.string (S3.B s2.callee)) (.slice Aa2 s2.args.length ca2) (.slice Ab2 s2.body.length cb2) (.slice Ae2 s2.els.length ce2))
    clear hb hQ HQ HB9 hS2 D
    go_wp2_with fail
    exact bodyPost_ret (v := .tuple #[(S3.sV s2 (.slice Aa2 s2.args.length ca2) (.slice Ab2 s2.body.length cb2) (.slice Ae2 s2.els.length ce2)), .int .i64 (m : Int), .int .i64 0]) (by simp [results, Tryz.results81, go_sem, r0, r1, r2, r3, r4, r5, r6, r7]) rfl (by rw [Hr.out]; exact ⟨_, _, _, rfl, HB.out.1, HB.out.2⟩)
end Go.Proofs.YtoldhocdfkndbaaGreatDoor.E6

namespace Go.Proofs.YtoldhocdfkndbaaGreatDoor.E6
open Go Go.RowKit Go.Proofs.YtoldhocdfkndbaaGreatDoor Go.Proofs.YtoldhocdfkndbaaGreatDoor.E5

set_option maxRecDepth 100000 in
set_option maxHeartbeats 8000000 in
theorem stmt_var {w : World} {l : TL} {v : Value} (hT : TokL w w.heap.size v l) (hll : l.length ≤ 1000000) (i d : Nat) {r : RS} (h : kwAt l i = wVar) (C : ∀ W, Below w.heap.size w W → Calls Tryz.prog 111 #[v, .int .i64 (i : Int)] W (PostPS W r)) :
    Calls Tryz.prog 81 #[v, .int .i64 (i : Int), .int .i64 (d : Int)] w (PostPS w (r)) := by
  have hi : i < l.length := kwAt_lt h (by decide)
  have q0 : (kwAt l i == wVar) = true := by rw [h]; rfl
  obtain ⟨TA, Tc, rfl⟩ := hT.val
  have HT := Lib.hid hT
  have hn1 : IntKind.i64.wrap ((i : Int) + 1) = (i : Int) + 1 := IntWalk.i64_in _ (by omega)
  have hn2 : IntKind.i64.wrap ((i : Int) + 2) = (i : Int) + 2 := IntWalk.i64_in _ (by omega)
  have CC := Lib.hid C
  clear hT h C
  go_enter Tryz.func81, Tryz.ntmps81
  try simp only [List.append_eq, List.cons_append, List.nil_append]
  go_wp2_with fail
  refine (kw6 (tokU HT.out (S3.bal w _)) q0 (by first | decide | simp) (by omega)).mono ?_
  rintro E w1 ⟨rfl, hb⟩
  have HB1 := Lib.hid hb
  clear hb
  obtain ⟨hQ, hbw⟩ := box1 w HB1.out
  have hq1 := hQ.lt
  have D := Lib.hid ((CC.out _ hbw).mono fun _ _ h => postZ_of h)
  have HQ := Lib.hid hQ
  have HB9 := Lib.hid hbw
  clear hQ hbw HT HB1
  go_wp2_with fail
  refine D.out.mono ?_
  intro E w10 hP
  cases hr : r with
  | bad j c' =>
    rw [hr] at hP
    have Hr := Lib.hid hr
    clear hr
    obtain ⟨rfl, hb⟩ := hP
    have hQ := HQ.out.bel hb
    have hq2 := hQ.lt
    obtain ⟨z0, z1, z2, z3, z4, z5, z6, z7, r0, r1, r2, r3, r4, r5, r6, r7, y0, y1, y2, y3, y4, y5, y6, y7⟩ := hQ.facts
    have HB := Lib.hid (put8_below (after HB9.out hb) (q := w.heap.size) (Nat.le_refl _) (.int .i64 0) (.int .i64 0) (.string ⟨#[]⟩) (.int .i64 0) (.string ⟨#[]⟩) (.slice none 0 0) (.slice none 0 0) (.slice none 0 0))
    clear hb hQ HQ HB9 D
    go_wp2_with fail
    exact bodyPost_ret (v := .tuple #[S3.sV zS (.slice none 0 0) (.slice none 0 0) (.slice none 0 0), .int .i64 (j : Int), .int .i64 c']) (by simp [results, Tryz.results81, go_sem, zS, r0, r1, r2, r3, r4, r5, r6, r7]) rfl (by rw [Hr.out]; exact ⟨rfl, HB.out⟩)
  | ok s2 m =>
    rw [hr] at hP
    have Hr := Lib.hid hr
    clear hr
    obtain ⟨va2, vb2, ve2, rfl, hS2, hb⟩ := hP
    obtain ⟨Aa2, ca2, rfl⟩ := hS2.a.slice
    obtain ⟨Ab2, cb2, rfl⟩ := hS2.b.slice
    obtain ⟨Ae2, ce2, rfl⟩ := hS2.e.slice
    have hQ := HQ.out.bel hb
    have hq2 := hQ.lt
    obtain ⟨z0, z1, z2, z3, z4, z5, z6, z7, r0, r1, r2, r3, r4, r5, r6, r7, y0, y1, y2, y3, y4, y5, y6, y7⟩ := hQ.facts
    have HB := Lib.hid (nfin (R := NoR) s2 HB9.out HQ.out.lt (fun _ h => h.elim) hS2 hb (.int .i64 s2.kind) (.int .i64 s2.no) (.string (S3.B s2.name)) (.int .i64 s2.typ) (.string (S3.B s2.callee)) (.slice Aa2 s2.args.length ca2) (.slice Ab2 s2.body.length cb2) (.slice Ae2 s2.els.length ce2))
    clear hb hQ HQ HB9 hS2 D
    go_wp2_with fail
    exact bodyPost_ret (v := .tuple #[(S3.sV s2 (.slice Aa2 s2.args.length ca2) (.slice Ab2 s2.body.length cb2) (.slice Ae2 s2.els.length ce2)), .int .i64 (m : Int), .int .i64 0]) (by simp [results, Tryz.results81, go_sem, r0, r1, r2, r3, r4, r5, r6, r7]) rfl (by rw [Hr.out]; exact ⟨_, _, _, rfl, HB.out.1, HB.out.2⟩)
set_option maxRecDepth 100000 in
set_option maxHeartbeats 8000000 in
theorem stmt_if {w : World} {l : TL} {v : Value} (hT : TokL w w.heap.size v l) (hll : l.length ≤ 1000000) (i d : Nat) {r : RS} (h : kwAt l i = wIf) (C : ∀ W, Below w.heap.size w W → Calls Tryz.prog 117 #[S3.sV ⟨9, 0, [], 0, [], [], [], []⟩ (.slice none 0 0) (.slice none 0 0) (.slice none 0 0), v, .int .i64 ((i + 1 : Nat) : Int), .int .i64 (d : Int)] W (PostPS W r)) :
    Calls Tryz.prog 81 #[v, .int .i64 (i : Int), .int .i64 (d : Int)] w (PostPS w (r)) := by
  have hi : i < l.length := kwAt_lt h (by decide)
  have q0 : (kwAt l i == wVar) = false := by rw [h]; rfl
  have q1 : (kwAt l i == wRead) = false := by rw [h]; rfl
  have q2 : (kwAt l i == wPrint) = false := by rw [h]; rfl
  have q3 : (kwAt l i == wReturn) = false := by rw [h]; rfl
  have q4 : (kwAt l i == wIf) = true := by rw [h]; rfl
  obtain ⟨TA, Tc, rfl⟩ := hT.val
  have HT := Lib.hid hT
  have hn1 : IntKind.i64.wrap ((i : Int) + 1) = (i : Int) + 1 := IntWalk.i64_in _ (by omega)
  have hn2 : IntKind.i64.wrap ((i : Int) + 2) = (i : Int) + 2 := IntWalk.i64_in _ (by omega)
  have CC := Lib.hid C
  clear hT h C
  go_enter Tryz.func81, Tryz.ntmps81
  try simp only [List.append_eq, List.cons_append, List.nil_append]
  go_wp2_with fail
  refine (kw6 (tokU HT.out (S3.bal w _)) q0 (by first | decide | simp) (by omega)).mono ?_
  rintro E w1 ⟨rfl, hb⟩
  have HB1 := Lib.hid hb
  clear hb
  go_wp2_with fail
  refine (kw6 (tokU (tokU HT.out (S3.bal w _)) HB1.out) q1 (by first | decide | simp) (by omega)).mono ?_
  rintro E w2 ⟨rfl, hb⟩
  have HB2 := Lib.hid (after HB1.out hb)
  clear hb HB1
  go_wp2_with fail
  refine (kw6 (tokU (tokU HT.out (S3.bal w _)) HB2.out) q2 (by first | decide | simp) (by omega)).mono ?_
  rintro E w3 ⟨rfl, hb⟩
  have HB3 := Lib.hid (after HB2.out hb)
  clear hb HB2
  go_wp2_with fail
  refine (kw6 (tokU (tokU HT.out (S3.bal w _)) HB3.out) q3 (by first | decide | simp) (by omega)).mono ?_
  rintro E w4 ⟨rfl, hb⟩
  have HB4 := Lib.hid (after HB3.out hb)
  clear hb HB3
  go_wp2_with fail
  refine (kw6 (tokU (tokU HT.out (S3.bal w _)) HB4.out) q3 (by first | decide | simp) (by omega)).mono ?_
  rintro E w5 ⟨rfl, hb⟩
  have HB5 := Lib.hid (after HB4.out hb)
  clear hb HB4
  go_wp2_with fail
  refine (kw6 (tokU (tokU HT.out (S3.bal w _)) HB5.out) q4 (by first | decide | simp) (by omega)).mono ?_
  rintro E w6 ⟨rfl, hb⟩
  have HB6 := Lib.hid (after HB5.out hb)
  clear hb HB5
  obtain ⟨hQ, hbw⟩ := box1 w HB6.out
  have hq1 := hQ.lt
  have D := Lib.hid ((CC.out _ hbw).mono fun _ _ h => postZ_of h)
  have HQ := Lib.hid hQ
  have HB9 := Lib.hid hbw
  clear hQ hbw HT HB6
  go_wp2_with fail
  refine D.out.mono ?_
  intro E w10 hP
  cases hr : r with
  | bad j c' =>
    rw [hr] at hP
    have Hr := Lib.hid hr
    clear hr
    obtain ⟨rfl, hb⟩ := hP
    have hQ := HQ.out.bel hb
    have hq2 := hQ.lt
    obtain ⟨z0, z1, z2, z3, z4, z5, z6, z7, r0, r1, r2, r3, r4, r5, r6, r7, y0, y1, y2, y3, y4, y5, y6, y7⟩ := hQ.facts
    have HB := Lib.hid (put8_below (after HB9.out hb) (q := w.heap.size) (Nat.le_refl _) (.int .i64 0) (.int .i64 0) (.string ⟨#[]⟩) (.int .i64 0) (.string ⟨#[]⟩) (.slice none 0 0) (.slice none 0 0) (.slice none 0 0))
    clear hb hQ HQ HB9 D
    go_wp2_with fail
    exact bodyPost_ret (v := .tuple #[S3.sV zS (.slice none 0 0) (.slice none 0 0) (.slice none 0 0), .int .i64 (j : Int), .int .i64 c']) (by simp [results, Tryz.results81, go_sem, zS, r0, r1, r2, r3, r4, r5, r6, r7]) rfl (by rw [Hr.out]; exact ⟨rfl, HB.out⟩)
  | ok s2 m =>
    rw [hr] at hP
    have Hr := Lib.hid hr
    clear hr
    obtain ⟨va2, vb2, ve2, rfl, hS2, hb⟩ := hP
    obtain ⟨Aa2, ca2, rfl⟩ := hS2.a.slice
    obtain ⟨Ab2, cb2, rfl⟩ := hS2.b.slice
    obtain ⟨Ae2, ce2, rfl⟩ := hS2.e.slice
    have hQ := HQ.out.bel hb
    have hq2 := hQ.lt
    obtain ⟨z0, z1, z2, z3, z4, z5, z6, z7, r0, r1, r2, r3, r4, r5, r6, r7, y0, y1, y2, y3, y4, y5, y6, y7⟩ := hQ.facts
    have HB := Lib.hid (nfin (R := NoR) s2 HB9.out HQ.out.lt (fun _ h => h.elim) hS2 hb (.int .i64 s2.kind) (.int .i64 s2.no) (.string (S3.B s2.name)) (.int .i64 s2.typ) (.string (S3.B s2.callee)) (.slice Aa2 s2.args.length ca2) (.slice Ab2 s2.body.length cb2) (.slice Ae2 s2.els.length ce2))
    clear hb hQ HQ HB9 hS2 D
    go_wp2_with fail
    exact bodyPost_ret (v := .tuple #[(S3.sV s2 (.slice Aa2 s2.args.length ca2) (.slice Ab2 s2.body.length cb2) (.slice Ae2 s2.els.length ce2)), .int .i64 (m : Int), .int .i64 0]) (by simp [results, Tryz.results81, go_sem, r0, r1, r2, r3, r4, r5, r6, r7]) rfl (by rw [Hr.out]; exact ⟨_, _, _, rfl, HB.out.1, HB.out.2⟩)
set_option maxRecDepth 100000 in
set_option maxHeartbeats 8000000 in
theorem stmt_while {w : World} {l : TL} {v : Value} (hT : TokL w w.heap.size v l) (hll : l.length ≤ 1000000) (i d : Nat) {r : RS} (h : kwAt l i = wWhile) (C : ∀ W, Below w.heap.size w W → Calls Tryz.prog 117 #[S3.sV ⟨10, 0, [], 0, [], [], [], []⟩ (.slice none 0 0) (.slice none 0 0) (.slice none 0 0), v, .int .i64 ((i + 1 : Nat) : Int), .int .i64 (d : Int)] W (PostPS W r)) :
    Calls Tryz.prog 81 #[v, .int .i64 (i : Int), .int .i64 (d : Int)] w (PostPS w (r)) := by
  have hi : i < l.length := kwAt_lt h (by decide)
  have q0 : (kwAt l i == wVar) = false := by rw [h]; rfl
  have q1 : (kwAt l i == wRead) = false := by rw [h]; rfl
  have q2 : (kwAt l i == wPrint) = false := by rw [h]; rfl
  have q3 : (kwAt l i == wReturn) = false := by rw [h]; rfl
  have q4 : (kwAt l i == wIf) = false := by rw [h]; rfl
  have q5 : (kwAt l i == wWhile) = true := by rw [h]; rfl
  obtain ⟨TA, Tc, rfl⟩ := hT.val
  have HT := Lib.hid hT
  have hn1 : IntKind.i64.wrap ((i : Int) + 1) = (i : Int) + 1 := IntWalk.i64_in _ (by omega)
  have hn2 : IntKind.i64.wrap ((i : Int) + 2) = (i : Int) + 2 := IntWalk.i64_in _ (by omega)
  have CC := Lib.hid C
  clear hT h C
  go_enter Tryz.func81, Tryz.ntmps81
  try simp only [List.append_eq, List.cons_append, List.nil_append]
  go_wp2_with fail
  refine (kw6 (tokU HT.out (S3.bal w _)) q0 (by first | decide | simp) (by omega)).mono ?_
  rintro E w1 ⟨rfl, hb⟩
  have HB1 := Lib.hid hb
  clear hb
  go_wp2_with fail
  refine (kw6 (tokU (tokU HT.out (S3.bal w _)) HB1.out) q1 (by first | decide | simp) (by omega)).mono ?_
  rintro E w2 ⟨rfl, hb⟩
  have HB2 := Lib.hid (after HB1.out hb)
  clear hb HB1
  go_wp2_with fail
  refine (kw6 (tokU (tokU HT.out (S3.bal w _)) HB2.out) q2 (by first | decide | simp) (by omega)).mono ?_
  rintro E w3 ⟨rfl, hb⟩
  have HB3 := Lib.hid (after HB2.out hb)
  clear hb HB2
  go_wp2_with fail
  refine (kw6 (tokU (tokU HT.out (S3.bal w _)) HB3.out) q3 (by first | decide | simp) (by omega)).mono ?_
  rintro E w4 ⟨rfl, hb⟩
  have HB4 := Lib.hid (after HB3.out hb)
  clear hb HB3
  go_wp2_with fail
  refine (kw6 (tokU (tokU HT.out (S3.bal w _)) HB4.out) q3 (by first | decide | simp) (by omega)).mono ?_
  rintro E w5 ⟨rfl, hb⟩
  have HB5 := Lib.hid (after HB4.out hb)
  clear hb HB4
  go_wp2_with fail
  refine (kw6 (tokU (tokU HT.out (S3.bal w _)) HB5.out) q4 (by first | decide | simp) (by omega)).mono ?_
  rintro E w6 ⟨rfl, hb⟩
  have HB6 := Lib.hid (after HB5.out hb)
  clear hb HB5
  go_wp2_with fail
  refine (kw6 (tokU (tokU HT.out (S3.bal w _)) HB6.out) q5 (by first | decide | simp) (by omega)).mono ?_
  rintro E w7 ⟨rfl, hb⟩
  have HB7 := Lib.hid (after HB6.out hb)
  clear hb HB6
  obtain ⟨hQ, hbw⟩ := box1 w HB7.out
  have hq1 := hQ.lt
  have D := Lib.hid ((CC.out _ hbw).mono fun _ _ h => postZ_of h)
  have HQ := Lib.hid hQ
  have HB9 := Lib.hid hbw
  clear hQ hbw HT HB7
  go_wp2_with fail
  refine D.out.mono ?_
  intro E w10 hP
  cases hr : r with
  | bad j c' =>
    rw [hr] at hP
    have Hr := Lib.hid hr
    clear hr
    obtain ⟨rfl, hb⟩ := hP
    have hQ := HQ.out.bel hb
    have hq2 := hQ.lt
    obtain ⟨z0, z1, z2, z3, z4, z5, z6, z7, r0, r1, r2, r3, r4, r5, r6, r7, y0, y1, y2, y3, y4, y5, y6, y7⟩ := hQ.facts
    have HB := Lib.hid (put8_below (after HB9.out hb) (q := w.heap.size) (Nat.le_refl _) (.int .i64 0) (.int .i64 0) (.string ⟨#[]⟩) (.int .i64 0) (.string ⟨#[]⟩) (.slice none 0 0) (.slice none 0 0) (.slice none 0 0))
    clear hb hQ HQ HB9 D
    go_wp2_with fail
    exact bodyPost_ret (v := .tuple #[S3.sV zS (.slice none 0 0) (.slice none 0 0) (.slice none 0 0), .int .i64 (j : Int), .int .i64 c']) (by simp [results, Tryz.results81, go_sem, zS, r0, r1, r2, r3, r4, r5, r6, r7]) rfl (by rw [Hr.out]; exact ⟨rfl, HB.out⟩)
  | ok s2 m =>
    rw [hr] at hP
    have Hr := Lib.hid hr
    clear hr
    obtain ⟨va2, vb2, ve2, rfl, hS2, hb⟩ := hP
    obtain ⟨Aa2, ca2, rfl⟩ := hS2.a.slice
    obtain ⟨Ab2, cb2, rfl⟩ := hS2.b.slice
    obtain ⟨Ae2, ce2, rfl⟩ := hS2.e.slice
    have hQ := HQ.out.bel hb
    have hq2 := hQ.lt
    obtain ⟨z0, z1, z2, z3, z4, z5, z6, z7, r0, r1, r2, r3, r4, r5, r6, r7, y0, y1, y2, y3, y4, y5, y6, y7⟩ := hQ.facts
    have HB := Lib.hid (nfin (R := NoR) s2 HB9.out HQ.out.lt (fun _ h => h.elim) hS2 hb (.int .i64 s2.kind) (.int .i64 s2.no) (.string (S3.B s2.name)) (.int .i64 s2.typ) (.string (S3.B s2.callee)) (.slice Aa2 s2.args.length ca2) (.slice Ab2 s2.body.length cb2) (.slice Ae2 s2.els.length ce2))
    clear hb hQ HQ HB9 hS2 D
    go_wp2_with fail
    exact bodyPost_ret (v := .tuple #[(S3.sV s2 (.slice Aa2 s2.args.length ca2) (.slice Ab2 s2.body.length cb2) (.slice Ae2 s2.els.length ce2)), .int .i64 (m : Int), .int .i64 0]) (by simp [results, Tryz.results81, go_sem, r0, r1, r2, r3, r4, r5, r6, r7]) rfl (by rw [Hr.out]; exact ⟨_, _, _, rfl, HB.out.1, HB.out.2⟩)
set_option maxRecDepth 100000 in
set_option maxHeartbeats 8000000 in
theorem stmt_wrong {w : World} {l : TL} {v : Value} (hT : TokL w w.heap.size v l) (hll : l.length ≤ 1000000) (i d : Nat) (hi : i ≤ l.length) (hn : nmTok (tkAt l i) = false) (k0 : kwAt l i ≠ wVar) (k1 : kwAt l i ≠ wRead) (k2 : kwAt l i ≠ wPrint) (k3 : kwAt l i ≠ wReturn) (k4 : kwAt l i ≠ wIf) (k5 : kwAt l i ≠ wWhile) :
    Calls Tryz.prog 81 #[v, .int .i64 (i : Int), .int .i64 (d : Int)] w (PostPS w (.bad i 7)) := by
  have q0 : (kwAt l i == wVar) = false := beq_eq_false_iff_ne.2 k0
  have q1 : (kwAt l i == wRead) = false := beq_eq_false_iff_ne.2 k1
  have q2 : (kwAt l i == wPrint) = false := beq_eq_false_iff_ne.2 k2
  have q3 : (kwAt l i == wReturn) = false := beq_eq_false_iff_ne.2 k3
  have q4 : (kwAt l i == wIf) = false := beq_eq_false_iff_ne.2 k4
  have q5 : (kwAt l i == wWhile) = false := beq_eq_false_iff_ne.2 k5
  obtain ⟨TA, Tc, rfl⟩ := hT.val
  have HT := Lib.hid hT
  have hn1 : IntKind.i64.wrap ((i : Int) + 1) = (i : Int) + 1 := IntWalk.i64_in _ (by omega)
  have hn2 : IntKind.i64.wrap ((i : Int) + 2) = (i : Int) + 2 := IntWalk.i64_in _ (by omega)
  clear hT k0 k1 k2 k3 k4 k5
  go_enter Tryz.func81, Tryz.ntmps81
  try simp only [List.append_eq, List.cons_append, List.nil_append]
  go_wp2_with fail
  refine (kw6 (tokU HT.out (S3.bal w _)) q0 (by first | decide | simp) (by omega)).mono ?_
  rintro E w1 ⟨rfl, hb⟩
  have HB1 := Lib.hid hb
  clear hb
  go_wp2_with fail
  refine (kw6 (tokU (tokU HT.out (S3.bal w _)) HB1.out) q1 (by first | decide | simp) (by omega)).mono ?_
  rintro E w2 ⟨rfl, hb⟩
  have HB2 := Lib.hid (after HB1.out hb)
  clear hb HB1
  go_wp2_with fail
  refine (kw6 (tokU (tokU HT.out (S3.bal w _)) HB2.out) q2 (by first | decide | simp) (by omega)).mono ?_
  rintro E w3 ⟨rfl, hb⟩
  have HB3 := Lib.hid (after HB2.out hb)
  clear hb HB2
  go_wp2_with fail
  refine (kw6 (tokU (tokU HT.out (S3.bal w _)) HB3.out) q3 (by first | decide | simp) (by omega)).mono ?_
  rintro E w4 ⟨rfl, hb⟩
  have HB4 := Lib.hid (after HB3.out hb)
  clear hb HB3
  go_wp2_with fail
  refine (kw6 (tokU (tokU HT.out (S3.bal w _)) HB4.out) q3 (by first | decide | simp) (by omega)).mono ?_
  rintro E w5 ⟨rfl, hb⟩
  have HB5 := Lib.hid (after HB4.out hb)
  clear hb HB4
  go_wp2_with fail
  refine (kw6 (tokU (tokU HT.out (S3.bal w _)) HB5.out) q4 (by first | decide | simp) (by omega)).mono ?_
  rintro E w6 ⟨rfl, hb⟩
  have HB6 := Lib.hid (after HB5.out hb)
  clear hb HB5
  go_wp2_with fail
  refine (kw6 (tokU (tokU HT.out (S3.bal w _)) HB6.out) q5 (by first | decide | simp) (by omega)).mono ?_
  rintro E w7 ⟨rfl, hb⟩
  have HB7 := Lib.hid (after HB6.out hb)
  clear hb HB6
  go_wp2_with fail
  refine (nam6 (tokU (tokU HT.out (S3.bal w _)) HB7.out) hn (by omega)).mono ?_
  rintro E w8 ⟨rfl, hb⟩
  have HB8 := Lib.hid (after HB7.out hb)
  clear hb HB7
  go_wp2_with fail
  refine (wrong6 _ _).mono ?_
  rintro E wz ⟨rfl, hb⟩
  obtain ⟨hQ, hbw⟩ := box1 w (after HB8.out hb)
  have hq1 := hQ.lt
  obtain ⟨z0, z1, z2, z3, z4, z5, z6, z7, r0, r1, r2, r3, r4, r5, r6, r7, y0, y1, y2, y3, y4, y5, y6, y7⟩ := hQ.facts
  have HB := Lib.hid (put8_below hbw (q := w.heap.size) (Nat.le_refl _) (.int .i64 0) (.int .i64 0) (.string ⟨#[]⟩) (.int .i64 0) (.string ⟨#[]⟩) (.slice none 0 0) (.slice none 0 0) (.slice none 0 0))
  clear hb hQ hbw HB8 HT
  go_wp2_with fail
  exact bodyPost_ret (v := .tuple #[S3.sV zS (.slice none 0 0) (.slice none 0 0) (.slice none 0 0), .int .i64 (i : Int), .int .i64 7]) (by simp [results, Tryz.results81, go_sem, zS, r0, r1, r2, r3, r4, r5, r6, r7]) rfl ⟨rfl, HB.out⟩
set_option maxRecDepth 100000 in
set_option maxHeartbeats 8000000 in
theorem stmt_read0 {w : World} {l : TL} {v : Value} (hT : TokL w w.heap.size v l) (hll : l.length ≤ 1000000) (i d : Nat) (h : kwAt l i = wRead) (hn : nmTok (tkAt l (i + 1)) = false) :
    Calls Tryz.prog 81 #[v, .int .i64 (i : Int), .int .i64 (d : Int)] w (PostPS w (.bad (i + 1) 7)) := by
  have hi : i < l.length := kwAt_lt h (by decide)
  have q0 : (kwAt l i == wVar) = false := by rw [h]; rfl
  have q1 : (kwAt l i == wRead) = true := by rw [h]; rfl
  obtain ⟨TA, Tc, rfl⟩ := hT.val
  have HT := Lib.hid hT
  have hn1 : IntKind.i64.wrap ((i : Int) + 1) = (i : Int) + 1 := IntWalk.i64_in _ (by omega)
  have hn2 : IntKind.i64.wrap ((i : Int) + 2) = (i : Int) + 2 := IntWalk.i64_in _ (by omega)
  clear hT h
  go_enter Tryz.func81, Tryz.ntmps81
  try simp only [List.append_eq, List.cons_append, List.nil_append]
  go_wp2_with fail
  refine (kw6 (tokU HT.out (S3.bal w _)) q0 (by first | decide | simp) (by omega)).mono ?_
  rintro E w1 ⟨rfl, hb⟩
  have HB1 := Lib.hid hb
  clear hb
  go_wp2_with fail
  refine (kw6 (tokU (tokU HT.out (S3.bal w _)) HB1.out) q1 (by first | decide | simp) (by omega)).mono ?_
  rintro E w2 ⟨rfl, hb⟩
  have HB2 := Lib.hid (after HB1.out hb)
  clear hb HB1
  go_wp2_with fail
  refine (nam6 (tokU (tokU HT.out (S3.bal w _)) HB2.out) hn (by omega)).mono ?_
  rintro E w3 ⟨rfl, hb⟩
  have HB3 := Lib.hid (after HB2.out hb)
  clear hb HB2
  go_wp2_with fail
  refine (wrong6 _ _).mono ?_
  rintro E wz ⟨rfl, hb⟩
  obtain ⟨hQ, hbw⟩ := box1 w (after HB3.out hb)
  have hq1 := hQ.lt
  obtain ⟨z0, z1, z2, z3, z4, z5, z6, z7, r0, r1, r2, r3, r4, r5, r6, r7, y0, y1, y2, y3, y4, y5, y6, y7⟩ := hQ.facts
  have HB := Lib.hid (put8_below hbw (q := w.heap.size) (Nat.le_refl _) (.int .i64 0) (.int .i64 0) (.string ⟨#[]⟩) (.int .i64 0) (.string ⟨#[]⟩) (.slice none 0 0) (.slice none 0 0) (.slice none 0 0))
  clear hb hQ hbw HB3 HT
  go_wp2_with fail
  exact bodyPost_ret (v := .tuple #[S3.sV zS (.slice none 0 0) (.slice none 0 0) (.slice none 0 0), .int .i64 (((i + 1 : Nat) : Int) : Int), .int .i64 7]) (by simp [results, Tryz.results81, go_sem, zS, r0, r1, r2, r3, r4, r5, r6, r7]) rfl ⟨rfl, HB.out⟩
end Go.Proofs.YtoldhocdfkndbaaGreatDoor.E6

namespace Go.Proofs.YtoldhocdfkndbaaGreatDoor.E6
open Go Go.RowKit Go.Proofs.YtoldhocdfkndbaaGreatDoor Go.Proofs.YtoldhocdfkndbaaGreatDoor.E5

set_option maxRecDepth 100000 in
set_option maxHeartbeats 8000000 in
theorem stmt_ret0 {w : World} {l : TL} {v : Value} (hT : TokL w w.heap.size v l) (hll : l.length ≤ 1000000) (i d : Nat) (h : kwAt l i = wReturn) (h2 : sgAt l (i + 1) = [59]) :
    Calls Tryz.prog 81 #[v, .int .i64 (i : Int), .int .i64 (d : Int)] w (PostPS w (.ok (sRet []) (i + 2))) := by
  have hi : i < l.length := kwAt_lt h (by decide)
  have hi1 := sgAt_lt h2 (by simp)
  have q0 : (kwAt l i == wVar) = false := by rw [h]; rfl
  have q1 : (kwAt l i == wRead) = false := by rw [h]; rfl
  have q2 : (kwAt l i == wPrint) = false := by rw [h]; rfl
  have q3 : (kwAt l i == wReturn) = true := by rw [h]; rfl
  have qs : (sgAt l (i + 1) == [59]) = true := by rw [h2]; rfl
  obtain ⟨TA, Tc, rfl⟩ := hT.val
  have HT := Lib.hid hT
  have hn1 : IntKind.i64.wrap ((i : Int) + 1) = (i : Int) + 1 := IntWalk.i64_in _ (by omega)
  have hn2 : IntKind.i64.wrap ((i : Int) + 2) = (i : Int) + 2 := IntWalk.i64_in _ (by omega)
  clear hT h h2
  go_enter Tryz.func81, Tryz.ntmps81
  try simp only [List.append_eq, List.cons_append, List.nil_append]
  go_wp2_with fail
  refine (kw6 (tokU HT.out (S3.bal w _)) q0 (by first | decide | simp) (by omega)).mono ?_
  rintro E w1 ⟨rfl, hb⟩
  have HB1 := Lib.hid hb
  clear hb
  go_wp2_with fail
  refine (kw6 (tokU (tokU HT.out (S3.bal w _)) HB1.out) q1 (by first | decide | simp) (by omega)).mono ?_
  rintro E w2 ⟨rfl, hb⟩
  have HB2 := Lib.hid (after HB1.out hb)
  clear hb HB1
  go_wp2_with fail
  refine (kw6 (tokU (tokU HT.out (S3.bal w _)) HB2.out) q2 (by first | decide | simp) (by omega)).mono ?_
  rintro E w3 ⟨rfl, hb⟩
  have HB3 := Lib.hid (after HB2.out hb)
  clear hb HB2
  go_wp2_with fail
  refine (kw6 (tokU (tokU HT.out (S3.bal w _)) HB3.out) q3 (by first | decide | simp) (by omega)).mono ?_
  rintro E w4 ⟨rfl, hb⟩
  have HB4 := Lib.hid (after HB3.out hb)
  clear hb HB3
  go_wp2_with fail
  refine (sgn6 (tokU (tokU HT.out (S3.bal w _)) HB4.out) qs (by first | decide | simp) (by omega)).mono ?_
  rintro E w5 ⟨rfl, hb⟩
  have HB5 := Lib.hid (after HB4.out hb)
  clear hb HB4
  obtain ⟨hQ, hbw⟩ := box1 w HB5.out
  have hq1 := hQ.lt
  obtain ⟨z0, z1, z2, z3, z4, z5, z6, z7, r0, r1, r2, r3, r4, r5, r6, r7, y0, y1, y2, y3, y4, y5, y6, y7⟩ := hQ.facts
  have HB := Lib.hid (put8_below hbw (q := w.heap.size) (Nat.le_refl _) (.int .i64 8) (.int .i64 0) (.string ⟨#[]⟩) (.int .i64 0) (.string ⟨#[]⟩) (.slice none 0 0) (.slice none 0 0) (.slice none 0 0))
  clear hQ hbw HB5 HT
  go_wp2_with fail
  have HS := fun W => (is_empty W (s := sRet []) ⟨ok_i (k := 8) rfl, ok_i (k := 0) rfl, ok_i (k := 0) rfl, by simp, by simp⟩ rfl rfl rfl).keep (R' := Rn w.heap.size W.heap.size) (fun _ h => h.elim) fun _ _ _ => rfl
  exact bodyPost_ret (v := .tuple #[S3.sV (sRet []) (.slice none 0 0) (.slice none 0 0) (.slice none 0 0), .int .i64 ((i + 2 : Nat) : Int), .int .i64 0]) (by simp [results, Tryz.results81, go_sem, r0, r1, r2, r3, r4, r5, r6, r7]) rfl ⟨_, _, _, rfl, HS _, HB.out⟩
set_option maxRecDepth 100000 in
set_option maxHeartbeats 8000000 in
theorem stmt_read {w : World} {l : TL} {v : Value} (hT : TokL w w.heap.size v l) (hll : l.length ≤ 1000000) (i d : Nat) (h : kwAt l i = wRead) (hn : nmTok (tkAt l (i + 1)) = true) :
    Calls Tryz.prog 81 #[v, .int .i64 (i : Int), .int .i64 (d : Int)] w (PostPS w (endS l (sRead (tkAt l (i + 1)).2) (i + 2))) := by
  have hi : i < l.length := kwAt_lt h (by decide)
  have hi1 := nm_lt hn
  have hlt1 : (i : Int) + 1 < (l.length : Int) := by omega
  have hg0 : (0 : Int) ≤ (i : Int) + 1 := by omega
  have q0 : (kwAt l i == wVar) = false := by rw [h]; rfl
  have q1 : (kwAt l i == wRead) = true := by rw [h]; rfl
  obtain ⟨TA, Tc, rfl⟩ := hT.val
  have HT := Lib.hid hT
  have hn1 : IntKind.i64.wrap ((i : Int) + 1) = (i : Int) + 1 := IntWalk.i64_in _ (by omega)
  have hn2 : IntKind.i64.wrap ((i : Int) + 2) = (i : Int) + 2 := IntWalk.i64_in _ (by omega)
  generalize hx : (tkAt l (i + 1)).2 = x
  clear hT h
  go_enter Tryz.func81, Tryz.ntmps81
  try simp only [List.append_eq, List.cons_append, List.nil_append]
  go_wp2_with fail
  refine (kw6 (tokU HT.out (S3.bal w _)) q0 (by first | decide | simp) (by omega)).mono ?_
  rintro E w1 ⟨rfl, hb⟩
  have HB1 := Lib.hid hb
  clear hb
  go_wp2_with fail
  refine (kw6 (tokU (tokU HT.out (S3.bal w _)) HB1.out) q1 (by first | decide | simp) (by omega)).mono ?_
  rintro E w2 ⟨rfl, hb⟩
  have HB2 := Lib.hid (after HB1.out hb)
  clear hb HB1
  go_wp2_with fail
  refine (nam6 (tokU (tokU HT.out (S3.bal w _)) HB2.out) hn (by omega)).mono ?_
  rintro E w3 ⟨rfl, hb⟩
  have HB3 := Lib.hid (after HB2.out hb)
  clear hb HB2
  obtain ⟨hQ, hbw⟩ := box1 w HB3.out
  have hq1 := hQ.lt
  obtain ⟨_, htl, tb, og, ta, rfl, htb, t0, t1, t2⟩ := (tokU HT.out hbw).at3 (i + 1) hi1
  rw [hx] at htl t1
  have D := Lib.hid (ended6 (tokU HT.out hbw) (R := NoR) (fun _ h => h.elim) (is_empty w3 (s := sRead x) ⟨ok_i (k := 5) rfl, ok_i (k := 0) rfl, ok_i (k := 0) rfl, htl, by simp⟩ rfl rfl rfl) (i + 2) (by omega))
  have HQ := Lib.hid hQ
  have HB9 := Lib.hid hbw
  clear hQ hbw HT HB3
  go_wp2_with fail
  refine D.out.mono ?_
  intro E w10 hP
  cases hr : endS l (sRead x) (i + 2) with
  | bad j c' =>
    rw [hr] at hP
    have Hr := Lib.hid hr
    clear hr
    obtain ⟨rfl, hb⟩ := hP
    have hQ := HQ.out.bel hb
    have hq2 := hQ.lt
    obtain ⟨z0, z1, z2, z3, z4, z5, z6, z7, r0, r1, r2, r3, r4, r5, r6, r7, y0, y1, y2, y3, y4, y5, y6, y7⟩ := hQ.facts
    have HB := Lib.hid (put8_below (after HB9.out hb) (q := w.heap.size) (Nat.le_refl _) (.int .i64 0) (.int .i64 0) (.string ⟨#[]⟩) (.int .i64 0) (.string ⟨#[]⟩) (.slice none 0 0) (.slice none 0 0) (.slice none 0 0))
    clear hb hQ HQ HB9 D
    go_wp2_with fail
    exact bodyPost_ret (v := .tuple #[S3.sV zS (.slice none 0 0) (.slice none 0 0) (.slice none 0 0), .int .i64 (j : Int), .int .i64 c']) (by simp [results, Tryz.results81, go_sem, zS, r0, r1, r2, r3, r4, r5, r6, r7]) rfl (by rw [Hr.out]; exact ⟨rfl, HB.out⟩)
  | ok s2 m =>
    rw [hr] at hP
    have Hr := Lib.hid hr
    clear hr
    obtain ⟨va2, vb2, ve2, rfl, hS2, hb⟩ := hP
    obtain ⟨Aa2, ca2, rfl⟩ := hS2.a.slice
    obtain ⟨Ab2, cb2, rfl⟩ := hS2.b.slice
    obtain ⟨Ae2, ce2, rfl⟩ := hS2.e.slice
    have hQ := HQ.out.bel hb
    have hq2 := hQ.lt
    obtain ⟨z0, z1, z2, z3, z4, z5, z6, z7, r0, r1, r2, r3, r4, r5, r6, r7, y0, y1, y2, y3, y4, y5, y6, y7⟩ := hQ.facts
    have HB := Lib.hid (nfin (R := NoR) s2 HB9.out HQ.out.lt (fun _ h => h.elim) hS2 hb (.int .i64 s2.kind) (.int .i64 s2.no) (.string (S3.B s2.name)) (.int .i64 s2.typ) (.string (S3.B s2.callee)) (.slice Aa2 s2.args.length ca2) (.slice Ab2 s2.body.length cb2) (.slice Ae2 s2.els.length ce2))
    clear hb hQ HQ HB9 hS2 D
    go_wp2_with fail
    exact bodyPost_ret (v := .tuple #[(S3.sV s2 (.slice Aa2 s2.args.length ca2) (.slice Ab2 s2.body.length cb2) (.slice Ae2 s2.els.length ce2)), .int .i64 (m : Int), .int .i64 0]) (by simp [results, Tryz.results81, go_sem, r0, r1, r2, r3, r4, r5, r6, r7]) rfl (by rw [Hr.out]; exact ⟨_, _, _, rfl, HB.out.1, HB.out.2⟩)
end Go.Proofs.YtoldhocdfkndbaaGreatDoor.E6
