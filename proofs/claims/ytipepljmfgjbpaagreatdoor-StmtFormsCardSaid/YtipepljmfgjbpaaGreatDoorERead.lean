/-
  cursor.Read, read, Parse, List: contracts. Written by gen6_read.py.
-/
import Derived.Test.YtipepljmfgjbpaaGreatDoorEList
import Derived.Defers
import Derived.Recover
namespace Go.Proofs.YtipepljmfgjbpaaGreatDoor.E5
open Go Go.RowKit Go.Proofs.YtipepljmfgjbpaaGreatDoor

theorem clist_calls {w : World} {l : TL} {v : Value} {b : RB} {i d : Nat} (h : Rd w l v b i d) (hll : l.length ≤ 1000000) :
    Calls Tryz.prog 77 #[cpt b.c, fX b] w (PostL w l v b d (listR l i d)) := by
  unfold listR
  by_cases h1 : sgAt l i = [40]
  · rw [if_pos h1]
    by_cases h2 : sgAt l (i + 1) = [41]
    · rw [if_pos h2]; exact rlist_none h h1 h2
    · rw [if_neg h2]
      have hi := sgAt_lt h1 (by simp)
      cases hB : binR l (i + 1) d 1 with
      | bad j c => rw [lstR_eq, hB]; exact rlist_first h h1 h2 j c hB
      | ok e n =>
        have hwin := binR_within l (i + 1) d 1 (by omega) hi
        rw [hB] at hwin
        simp only [Res.within] at hwin
        rw [lstR_eq, hB]
        exact rlist_many h hll h1 h2 e n hB (by omega) _ rfl
  · rw [if_neg h1]; exact rlist_no h h1

set_option maxRecDepth 100000 in
set_option maxHeartbeats 1000000 in
theorem rlist_calls {w : World} {l : TL} {v : Value} {b : RB} {i d : Nat} (h : Rd w l v b i d) (hll : l.length ≤ 1000000) :
    Calls Tryz.prog 72 #[rp b] w (PostL w l v b d (listR l i d)) := by
  have hmf : ∀ (fn : Fn) (first cap : Array Value) (w : World), (Instr.makeFunc fn first cap).run Tryz.prog w = .ok (.func fn first cap) w := fun _ _ _ _ => rfl
  have C := Lib.hid (clist_calls h hll)
  have pH := h.ptr
  clear h
  generalize listR l i d = r at *
  go_enter Tryz.func72, Tryz.ntmps72
  go_wp2_with fail
  refine C.out.mono ?_
  intro E w1 hP
  cases r with
  | bad j c =>
    obtain ⟨rfl, hf⟩ := hP
    have HF := Lib.hid hf
    clear hf C
    go_wp2_with fail
    exact ⟨rfl, rfl, HF.out⟩
  | ok es n =>
    obtain ⟨A, c, rfl, hE, hR, hf⟩ := hP
    have HE := Lib.hid hE
    have HR := Lib.hid hR
    have HF := Lib.hid hf
    clear hE hR hf C
    go_wp2_with fail
    go_ret
    exact ⟨A, c, rfl, HE.out, HR.out, HF.out⟩

theorem run_ta (a c : Int) (w : World) : (Instr.typeAssert (.iface 90 (.agg #[.int .i64 a, .int .i64 c])) 20 90 true).run Tryz.prog w = .ok (.tuple #[.agg #[.int .i64 a, .int .i64 c], .bool true]) w := by kernel_rfl
theorem run_ta0 (w : World) : (Instr.typeAssert .nilIface 20 90 true).run Tryz.prog w = .ok (.tuple #[.agg #[.int .i64 0, .int .i64 0], .bool false]) w := by kernel_rfl
abbrev rq (b : Nat) : Value := .pointer (some ⟨b, 0, none⟩)
/-! ### the one place where mistakes are recovered -/
set_option maxRecDepth 100000 in
theorem catchE_panicking (p q : Nat) (x y a c : Int) (older : List PanicEntry) (w : World) (hp : w.cell? ⟨p, 0, none⟩ = some (.int .i64 x)) (hq : w.cell? ⟨q, 0, none⟩ = some (.int .i64 y)) (hzp : w.frozen? ⟨p, 0, none⟩ = false) (hzq : w.frozen? ⟨q, 0, none⟩ = false) (hpb : p < w.heap.size) (hqb : q < w.heap.size) (hpq : p ≠ q) :
    CallsD Tryz.prog 82 #[rq p, rq q] (.panicking ({ v := .iface 90 (.agg #[.int .i64 a, .int .i64 c]), recovered := false } :: older)) w fun e u' w' =>
      e = .returned (.tuple #[]) ∧ u' = .panicking ({ v := .iface 90 (.agg #[.int .i64 a, .int .i64 c]), recovered := true } :: older) ∧ S3.Fr p q w w' ∧ w'.cell? ⟨p, 0, none⟩ = some (.int .i64 a) ∧ w'.cell? ⟨q, 0, none⟩ = some (.int .i64 c) := by
  refine callsD_of_wpS Tryz.func82 rfl fun c₀ cs hu => ?_
  apply wpS_seq
  apply wpS_region
  simp [wpOpsS, go_sem, recoverD, hu, Tryz.ntmps82, Exit.thenS, run_ta, Array.replicate]
  refine wpS_of_wp ?_
  clear hu
  go_wp2_with fail
  go_region
  go_wp2_with fail
  have h0 := ((((S3.Fr.refl p q w).set (p := ⟨p, 0, none⟩) (.inl rfl) (.int .i64 a)).set (p := ⟨q, 0, none⟩) (.inr rfl) (.int .i64 c)).alloc (.cells #[.int .i64 a, .int .i64 c] 90)).trans (S3.Fr.of ((Below.refl _ _).drew))
  refine ⟨rfl, _, rfl, _, results_none rfl _ _ _, rfl, rfl, h0, ?_, ?_⟩
  · simp [go_sem, hp, hpb]
  · simp [go_sem, hq, hqb]
set_option maxRecDepth 100000 in
theorem catchE_idle (p q : Nat) (w : World) :
    CallsD Tryz.prog 82 #[rq p, rq q] .returning w fun e u' w' =>
      e = .returned (.tuple #[]) ∧ u' = .returning ∧ Below w.heap.size w w' := by
  refine callsD_of_wpS Tryz.func82 rfl fun c₀ cs hu => ?_
  apply wpS_seq
  apply wpS_region
  simp [wpOpsS, go_sem, recoverD, hu, Tryz.ntmps82, Exit.thenS, run_ta0, Array.replicate]
  refine wpS_of_wp ?_
  go_wp2_with fail
  refine ⟨rfl, .returning, ?_, _, results_none rfl _ _ _, rfl, rfl, S3.bal w _⟩
  cases c₀
  simp_all
set_option maxRecDepth 100000 in
theorem catchL_panicking (p q : Nat) (x y a c : Int) (older : List PanicEntry) (w : World) (hp : w.cell? ⟨p, 0, none⟩ = some (.int .i64 x)) (hq : w.cell? ⟨q, 0, none⟩ = some (.int .i64 y)) (hzp : w.frozen? ⟨p, 0, none⟩ = false) (hzq : w.frozen? ⟨q, 0, none⟩ = false) (hpb : p < w.heap.size) (hqb : q < w.heap.size) (hpq : p ≠ q) :
    CallsD Tryz.prog 81 #[rq p, rq q] (.panicking ({ v := .iface 90 (.agg #[.int .i64 a, .int .i64 c]), recovered := false } :: older)) w fun e u' w' =>
      e = .returned (.tuple #[]) ∧ u' = .panicking ({ v := .iface 90 (.agg #[.int .i64 a, .int .i64 c]), recovered := true } :: older) ∧ S3.Fr p q w w' ∧ w'.cell? ⟨p, 0, none⟩ = some (.int .i64 a) ∧ w'.cell? ⟨q, 0, none⟩ = some (.int .i64 c) := by
  refine callsD_of_wpS Tryz.func81 rfl fun c₀ cs hu => ?_
  apply wpS_seq
  apply wpS_region
  simp [wpOpsS, go_sem, recoverD, hu, Tryz.ntmps81, Exit.thenS, run_ta, Array.replicate]
  refine wpS_of_wp ?_
  clear hu
  go_wp2_with fail
  go_region
  go_wp2_with fail
  have h0 := ((((S3.Fr.refl p q w).set (p := ⟨p, 0, none⟩) (.inl rfl) (.int .i64 a)).set (p := ⟨q, 0, none⟩) (.inr rfl) (.int .i64 c)).alloc (.cells #[.int .i64 a, .int .i64 c] 90)).trans (S3.Fr.of ((Below.refl _ _).drew))
  refine ⟨rfl, _, rfl, _, results_none rfl _ _ _, rfl, rfl, h0, ?_, ?_⟩
  · simp [go_sem, hp, hpb]
  · simp [go_sem, hq, hqb]
set_option maxRecDepth 100000 in
theorem catchL_idle (p q : Nat) (w : World) :
    CallsD Tryz.prog 81 #[rq p, rq q] .returning w fun e u' w' =>
      e = .returned (.tuple #[]) ∧ u' = .returning ∧ Below w.heap.size w w' := by
  refine callsD_of_wpS Tryz.func81 rfl fun c₀ cs hu => ?_
  apply wpS_seq
  apply wpS_region
  simp [wpOpsS, go_sem, recoverD, hu, Tryz.ntmps81, Exit.thenS, run_ta0, Array.replicate]
  refine wpS_of_wp ?_
  go_wp2_with fail
  refine ⟨rfl, .returning, ?_, _, results_none rfl _ _ _, rfl, rfl, S3.bal w _⟩
  cases c₀
  simp_all

/-! ### a new cursor, a new reader -/
def cuO (v : Value) (i : Nat) : Obj := .cells #[v, .int .i64 (i : Int)] 82
theorem cu_new {w W : World} {l : TL} {v : Value} {i : Nat} (hT : TokL w w.heap.size v l) (hG : GlobE w) (hi : i ≤ l.length) (hb : Below w.heap.size w W) : Cu (W.alloc (cuO v i)) l v W.heap.size i := by
  have hb2 := hb.alloc hb.size (cuO v i)
  have hlt := hG.s.lt
  exact ⟨heap_alloc_new W _, (hT.bel hb2).keep hb.size (fun _ _ _ => rfl), hG.up hb2, Nat.lt_of_lt_of_le hlt hb.size, hi⟩
theorem rd_new {W : World} {l : TL} {v : Value} {c i d : Nat} (h : Cu W l v c i) (hd : d ≤ 9223372036854775807) (T : TypeId) : ∃ b : RB, b.c = c ∧ b.r = W.heap.size ∧ Rd (W.alloc (.cells #[cpt c, .int .i64 (d : Int)] T)) l v b i d :=
  ⟨⟨c, W.heap.size, h.lt, T⟩, rfl, rfl, heap_alloc_new W _, h.al _, hd⟩
/-- What happened to a reader that was new. -/
theorem Fr.toC {W w1 w' : World} {b : RB} (h : Fr b w1 w') (hb : Below W.heap.size W w1) (hr : W.heap.size ≤ b.r) : FrC b.c W w' :=
  ⟨h.os.trans hb.os, h.tape.trans hb.tape, h.output.trans hb.output, Nat.le_trans hb.size h.size, fun k hk h1 => (h.blk k (Nat.lt_of_lt_of_le hk hb.size) h1 (by omega)).trans (hb.block k hk)⟩
theorem FrC.bel {c : Nat} {w w' : World} (h : FrC c w w') (hc : c ≤ w.heap.size) : Below c w w' := ⟨h.os, h.tape, h.output, h.size, fun k hk => h.block k (by omega) (by omega)⟩
theorem FrC.below {c M : Nat} {w w' : World} (h : FrC c w w') (hc : M ≤ c) (hM : M ≤ w.heap.size) : Below M w w' := ⟨h.os, h.tape, h.output, h.size, fun k hk => h.block k (by omega) (by omega)⟩

def zE : Ex := ⟨0, 0, 0, [], []⟩
def PostP (w : World) : Res → Ending → World → Prop
  | .ok e n => fun E w' => ∃ A k c, E = .returned (.tuple #[S3.eV e (.slice A k c), .int .i64 (n : Int), .int .i64 0]) ∧ S3.OkE e ∧ S3.ER w' (Rn w.heap.size w'.heap.size) e.args (.slice A k c) ∧ Below w.heap.size w w'
  | .bad a c => fun E w' => E = .returned (.tuple #[S3.eV zE (.slice none 0 0), .int .i64 (a : Int), .int .i64 c]) ∧ Below w.heap.size w w'

/-- What a part gives that is read with a cursor. -/
def PostC (w : World) (l : TL) (v : Value) (c : Nat) : Res → Ending → World → Prop
  | .ok e n => fun E w' => ∃ A k m, E = .returned (S3.eV e (.slice A k m)) ∧ S3.OkE e ∧ S3.ER w' (Rn w.heap.size w'.heap.size) e.args (.slice A k m) ∧ Cu w' l v c n ∧ FrC c w w'
  | .bad a k => fun E w' => E = bad a k ∧ FrC c w w'
def PostCL (w : World) (l : TL) (v : Value) (c : Nat) : ResL → Ending → World → Prop
  | .ok es n => fun E w' => ∃ A m, E = .returned (.slice A es.length m) ∧ S3.ER w' (Rn w.heap.size w'.heap.size) es (.slice A es.length m) ∧ Cu w' l v c n ∧ FrC c w w'
  | .bad a k => fun E w' => E = bad a k ∧ FrC c w w'
theorem one_facts {w : World} {q : Nat} {a : Value} {T : TypeId} (h : w.heap[q]? = some (.cells #[a] T (0, 0))) : w.cell? ⟨q, 0, none⟩ = some a ∧ w.frozen? ⟨q, 0, none⟩ = false := by
  refine ⟨(cell_of_row _ _ 0 _ _ _ h).trans rfl, ?_⟩
  unfold World.frozen?; rw [h]; rfl

theorem FrC.setNew {c : Nat} {w w' : World} (h : FrC c w w') {p : Addr} (hp : w.heap.size ≤ p.block) (u : Value) : FrC c w (w'.setCell p u) :=
  ⟨h.os, h.tape, h.output, by simpa [World.setCell] using h.size, fun k hk hb => (Below.heap_setCell w' p u k (by omega)).trans (h.block k hk hb)⟩
theorem put5_cu {w : World} {l : TL} {v : Value} {c i q : Nat} (h : Cu w l v c i) (hq : c < q) (a0 a1 a2 a3 a4 : Value) : Cu (put5 w q a0 a1 a2 a3 a4) l v c i :=
  ((((h.other (p := ⟨q, 0, none⟩) hq _).other (p := ⟨q, 1, none⟩) hq _).other (p := ⟨q, 2, none⟩) hq _).other (p := ⟨q, 3, none⟩) hq _).other (p := ⟨q, 4, none⟩) hq _
theorem put5_frc {w w1 : World} {c q : Nat} (h : FrC c w w1) (hq : w.heap.size ≤ q) (a0 a1 a2 a3 a4 : Value) : FrC c w (put5 w1 q a0 a1 a2 a3 a4) :=
  ((((h.setNew (p := ⟨q, 0, none⟩) hq _).setNew (p := ⟨q, 1, none⟩) hq _).setNew (p := ⟨q, 2, none⟩) hq _).setNew (p := ⟨q, 3, none⟩) hq _).setNew (p := ⟨q, 4, none⟩) hq _

/-! ### the closures -/
set_option maxRecDepth 100000 in
set_option maxHeartbeats 2000000 in
theorem partE {W : World} {l : TL} {v : Value} {c i d p q : Nat} (h : Cu W l v c i) (hd : d ≤ 9223372036854775807) (hp : W.cell? ⟨p, 0, none⟩ = some (.func (.func 74) #[] #[])) (hq : W.cell? ⟨q, 0, none⟩ = some (.int .i64 (d : Int))) (hpw : p < W.heap.size) (hqw : q < W.heap.size) :
    Calls Tryz.prog 79 #[cpt c, rq p, rq q] W (PostC W l v c (binR l i d 1)) := by
  have hcw := h.lt
  obtain ⟨b, rfl, hbr, hrd⟩ := rd_new (h.al (.cells #[.int .i64 0, .int .i64 0, .int .i64 0, .string ⟨#[]⟩, .slice none 0 0] 67)) hd 113
  have C := rexpression_calls hrd
  have hz : (W.alloc (.cells #[.int .i64 0, .int .i64 0, .int .i64 0, .string ⟨#[]⟩, .slice none 0 0] 67)).heap.size = W.heap.size + 1 := S3.sz1 W _
  rw [hz] at hbr
  simp only [rp, hbr] at C
  have C := Lib.hid C
  have HB := Lib.hid (S3.bal2 W (.cells #[.int .i64 0, .int .i64 0, .int .i64 0, .string ⟨#[]⟩, .slice none 0 0] 67) (.cells #[cpt b.c, .int .i64 (d : Int)] 113))
  have Q := Lib.hid (R5.new W (.int .i64 0) (.int .i64 0) (.int .i64 0) (.string ⟨#[]⟩) (.slice none 0 0))
  have hz2 := S3.sz1 (W.alloc (.cells #[.int .i64 0, .int .i64 0, .int .i64 0, .string ⟨#[]⟩, .slice none 0 0] 67)) (.cells #[cpt b.c, .int .i64 (d : Int)] 113)
  rw [hz] at hz2
  have Q2 := Lib.hid (Q.out.bel (S3.bal (W.alloc (.cells #[.int .i64 0, .int .i64 0, .int .i64 0, .string ⟨#[]⟩, .slice none 0 0] 67)) (.cells #[cpt b.c, .int .i64 (d : Int)] 113)))
  clear h hrd hz Q
  generalize binR l i d 1 = r at *
  go_enter Tryz.func79, Tryz.ntmps79
  go_wp2_with fail
  refine C.out.mono ?_
  clear C
  generalize (W.alloc (.cells #[.int .i64 0, .int .i64 0, .int .i64 0, .string ⟨#[]⟩, .slice none 0 0] 67)).alloc (.cells #[cpt b.c, .int .i64 (d : Int)] 113) = w2 at *
  intro E w4 hP
  cases r with
  | bad j k =>
    obtain ⟨rfl, hf⟩ := hP
    have HF := Lib.hid (hf.toC HB.out (by omega))
    clear hf
    go_wp2_with fail
    exact ⟨rfl, rfl, HF.out⟩
  | ok e n =>
    obtain ⟨A, k, m, rfl, ho, hE, hr, hf⟩ := hP
    obtain ⟨x0, x1, x2, x3, x4, hrow⟩ := Q2.out
    have hq2 := (show R5 w4 W.heap.size from ⟨_, _, _, _, _, (hf.blk W.heap.size (by omega) (by omega) (by omega)).trans hrow⟩)
    obtain ⟨z0, z1, z2, z3, z4, r0, r1, r2, r3, r4, y0, y1, y2, y3, y4⟩ := hq2.facts
    have hlt4 := hq2.lt
    have HC := Lib.hid (put5_cu hr.cu hcw (.int .i64 e.kind) (.int .i64 e.op) (.int .i64 e.num) (.string (S3.B e.name)) (.slice A k m))
    have HF := Lib.hid (put5_frc (hf.toC HB.out (by omega)) (Nat.le_refl _) (.int .i64 e.kind) (.int .i64 e.op) (.int .i64 e.num) (.string (S3.B e.name)) (.slice A k m))
    have HE := Lib.hid (er_mono (put5_er hE (show W.heap.size < w2.heap.size by omega) (.int .i64 e.kind) (.int .i64 e.op) (.int .i64 e.num) (.string (S3.B e.name)) (.slice A k m)) (show W.heap.size ≤ w2.heap.size by omega) (Nat.le_refl _))
    have HO := Lib.hid ho
    clear hr hf hE ho hrow hq2
    go_wp2_with fail
    exact bodyPost_ret (v := S3.eV e (.slice A k m)) (by simp [results, Tryz.results79, go_sem, r0, r1, r2, r3, r4]) rfl ⟨A, k, m, rfl, HO.out, HE.out, HC.out, HF.out⟩
set_option maxRecDepth 100000 in
set_option maxHeartbeats 2000000 in
theorem partL {W : World} {l : TL} {v : Value} {c i d p q : Nat} (h : Cu W l v c i) (hd : d ≤ 9223372036854775807) (hll : l.length ≤ 1000000) (hp : W.cell? ⟨p, 0, none⟩ = some (.func (.func 72) #[] #[])) (hq : W.cell? ⟨q, 0, none⟩ = some (.int .i64 (d : Int))) :
    Calls Tryz.prog 76 #[cpt c, rq p, rq q] W (PostCL W l v c (listR l i d)) := by
  obtain ⟨b, rfl, hbr, hrd⟩ := rd_new h hd 113
  have C := rlist_calls hrd hll
  simp only [rp, hbr] at C
  have C := Lib.hid C
  have HB := Lib.hid (S3.bal W (.cells #[cpt b.c, .int .i64 (d : Int)] 113))
  clear h hrd
  generalize listR l i d = r at *
  go_enter Tryz.func76, Tryz.ntmps76
  go_wp2_with fail
  refine C.out.mono ?_
  clear C
  generalize W.alloc (.cells #[cpt b.c, .int .i64 (d : Int)] 113) = w2 at *
  intro E w4 hP
  cases r with
  | bad j k =>
    obtain ⟨rfl, hf⟩ := hP
    have HF := Lib.hid (hf.toC HB.out (by omega))
    clear hf
    go_wp2_with fail
    exact ⟨rfl, rfl, HF.out⟩
  | ok es n =>
    obtain ⟨A, m, rfl, hE, hr, hf⟩ := hP
    have HF := Lib.hid (hf.toC HB.out (by omega))
    have HC := Lib.hid hr.cu
    have HE := Lib.hid (er_mono hE HB.out.size (Nat.le_refl _))
    clear hf hr hE
    go_wp2_with fail
    go_ret
    exact ⟨A, m, rfl, HE.out, HC.out, HF.out⟩
end Go.Proofs.YtipepljmfgjbpaaGreatDoor.E5
