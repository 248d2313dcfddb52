/-
  cursor.Read of a statement and of a block: what recovers; the closures: contracts. Written by gen6_read6.py.
  cursor.Read of statements and blocks: contracts. Written by gen6_read7.py.
  stmt.read, Parse, Block: contracts. Written by gen6_read8.py.
  stmt.Parse and stmt.Block: contracts. Written by gen6_read9.py.
-/
import Derived.Test.YtipepljmfgjbpaaGreatDoorTRd6
import Derived.Defers
import Derived.Recover
namespace Go.Proofs.YtipepljmfgjbpaaGreatDoor.E6
open Go Go.RowKit Go.Proofs.YtipepljmfgjbpaaGreatDoor Go.Proofs.YtipepljmfgjbpaaGreatDoor.E5

/-! ### the one place where mistakes are recovered -/
set_option maxRecDepth 100000 in
theorem catchS_panicking (p q : Nat) (x y a c : Int) (older : List PanicEntry) (w : World) (hp : w.cell? ⟨p, 0, none⟩ = some (.int .i64 x)) (hq : w.cell? ⟨q, 0, none⟩ = some (.int .i64 y)) (hzp : w.frozen? ⟨p, 0, none⟩ = false) (hzq : w.frozen? ⟨q, 0, none⟩ = false) (hpb : p < w.heap.size) (hqb : q < w.heap.size) (hpq : p ≠ q) :
    CallsD Tryz.prog 42 #[rq p, rq q] (.panicking ({ v := .iface 90 (.agg #[.int .i64 a, .int .i64 c]), recovered := false } :: older)) w fun e u' w' =>
      e = .returned (.tuple #[]) ∧ u' = .panicking ({ v := .iface 90 (.agg #[.int .i64 a, .int .i64 c]), recovered := true } :: older) ∧ S3.Fr p q w w' ∧ w'.cell? ⟨p, 0, none⟩ = some (.int .i64 a) ∧ w'.cell? ⟨q, 0, none⟩ = some (.int .i64 c) := by
  refine callsD_of_wpS Tryz.func42 rfl fun c₀ cs hu => ?_
  apply wpS_seq
  apply wpS_region
  simp [wpOpsS, go_sem, recoverD, hu, Tryz.ntmps42, Exit.thenS, run_ta, Array.replicate]
  refine wpS_of_wp ?_
  clear hu
  go_wp2_with fail
  go_region
  go_wp2_with fail
  have h0 := ((((S3.Fr.refl p q w).set (p := ⟨p, 0, none⟩) (.inl rfl) (.int .i64 a)).set (p := ⟨q, 0, none⟩) (.inr rfl) (.int .i64 c)).alloc (.cells #[.int .i64 a, .int .i64 c] 90)).trans (S3.Fr.of ((Below.refl _ _).drew))
  refine ⟨rfl, _, rfl, _, results_none rfl _ _ _, rfl, rfl, h0, ?_, ?_⟩
  · simp [go_sem, hp, hpb]
  · simp [go_sem, hq, hqb]
set_option maxRecDepth 100000 in
theorem catchS_idle (p q : Nat) (w : World) :
    CallsD Tryz.prog 42 #[rq p, rq q] .returning w fun e u' w' =>
      e = .returned (.tuple #[]) ∧ u' = .returning ∧ Below w.heap.size w w' := by
  refine callsD_of_wpS Tryz.func42 rfl fun c₀ cs hu => ?_
  apply wpS_seq
  apply wpS_region
  simp [wpOpsS, go_sem, recoverD, hu, Tryz.ntmps42, Exit.thenS, run_ta0, Array.replicate]
  refine wpS_of_wp ?_
  go_wp2_with fail
  refine ⟨rfl, .returning, ?_, _, results_none rfl _ _ _, rfl, rfl, S3.bal w _⟩
  cases c₀
  simp_all
set_option maxRecDepth 100000 in
theorem catchB_panicking (p q : Nat) (x y a c : Int) (older : List PanicEntry) (w : World) (hp : w.cell? ⟨p, 0, none⟩ = some (.int .i64 x)) (hq : w.cell? ⟨q, 0, none⟩ = some (.int .i64 y)) (hzp : w.frozen? ⟨p, 0, none⟩ = false) (hzq : w.frozen? ⟨q, 0, none⟩ = false) (hpb : p < w.heap.size) (hqb : q < w.heap.size) (hpq : p ≠ q) :
    CallsD Tryz.prog 55 #[rq p, rq q] (.panicking ({ v := .iface 90 (.agg #[.int .i64 a, .int .i64 c]), recovered := false } :: older)) w fun e u' w' =>
      e = .returned (.tuple #[]) ∧ u' = .panicking ({ v := .iface 90 (.agg #[.int .i64 a, .int .i64 c]), recovered := true } :: older) ∧ S3.Fr p q w w' ∧ w'.cell? ⟨p, 0, none⟩ = some (.int .i64 a) ∧ w'.cell? ⟨q, 0, none⟩ = some (.int .i64 c) := by
  refine callsD_of_wpS Tryz.func55 rfl fun c₀ cs hu => ?_
  apply wpS_seq
  apply wpS_region
  simp [wpOpsS, go_sem, recoverD, hu, Tryz.ntmps55, Exit.thenS, run_ta, Array.replicate]
  refine wpS_of_wp ?_
  clear hu
  go_wp2_with fail
  go_region
  go_wp2_with fail
  have h0 := ((((S3.Fr.refl p q w).set (p := ⟨p, 0, none⟩) (.inl rfl) (.int .i64 a)).set (p := ⟨q, 0, none⟩) (.inr rfl) (.int .i64 c)).alloc (.cells #[.int .i64 a, .int .i64 c] 90)).trans (S3.Fr.of ((Below.refl _ _).drew))
  refine ⟨rfl, _, rfl, _, results_none rfl _ _ _, rfl, rfl, h0, ?_, ?_⟩
  · simp [go_sem, hp, hpb]
  · simp [go_sem, hq, hqb]
set_option maxRecDepth 100000 in
theorem catchB_idle (p q : Nat) (w : World) :
    CallsD Tryz.prog 55 #[rq p, rq q] .returning w fun e u' w' =>
      e = .returned (.tuple #[]) ∧ u' = .returning ∧ Below w.heap.size w w' := by
  refine callsD_of_wpS Tryz.func55 rfl fun c₀ cs hu => ?_
  apply wpS_seq
  apply wpS_region
  simp [wpOpsS, go_sem, recoverD, hu, Tryz.ntmps55, Exit.thenS, run_ta0, Array.replicate]
  refine wpS_of_wp ?_
  go_wp2_with fail
  refine ⟨rfl, .returning, ?_, _, results_none rfl _ _ _, rfl, rfl, S3.bal w _⟩
  cases c₀
  simp_all


def zS : St := ⟨0, 0, [], 0, [], [], [], []⟩
/-- What a part gives that is read with a cursor. -/
def PostCS (w : World) (l : TL) (v : Value) (c : Nat) : RS → Ending → World → Prop
  | .ok s n => fun E w' => ∃ va vb ve, E = .returned (S3.sV s va vb ve) ∧ SIs w' (Rn w.heap.size w'.heap.size) s va vb ve ∧ Cu w' l v c n ∧ FrC c w w'
  | .bad a k => fun E w' => E = bad a k ∧ FrC c w w'
def PostCB (w : World) (l : TL) (v : Value) (c : Nat) : RBl → Ending → World → Prop
  | .ok ss n => fun E w' => ∃ A m, E = .returned (.slice A ss.length m) ∧ S3.SR w' (Rn w.heap.size w'.heap.size) ss (.slice A ss.length m) ∧ Cu w' l v c n ∧ FrC c w w'
  | .bad a k => fun E w' => E = bad a k ∧ FrC c w w'
def PostPS (w : World) : RS → Ending → World → Prop
  | .ok s n => fun E w' => ∃ va vb ve, E = .returned (.tuple #[S3.sV s va vb ve, .int .i64 (n : Int), .int .i64 0]) ∧ SIs w' (Rn w.heap.size w'.heap.size) s va vb ve ∧ Below w.heap.size w w'
  | .bad a c => fun E w' => E = .returned (.tuple #[S3.sV zS (.slice none 0 0) (.slice none 0 0) (.slice none 0 0), .int .i64 (a : Int), .int .i64 c]) ∧ Below w.heap.size w w'
def PostPB (w : World) : RBl → Ending → World → Prop
  | .ok ss n => fun E w' => ∃ A c, E = .returned (.tuple #[.slice A ss.length c, .int .i64 (n : Int), .int .i64 0]) ∧ S3.SR w' (Rn w.heap.size w'.heap.size) ss (.slice A ss.length c) ∧ Below w.heap.size w w'
  | .bad a c => fun E w' => E = .returned (.tuple #[.slice none 0 0, .int .i64 (a : Int), .int .i64 c]) ∧ Below w.heap.size w w'

/-! ### the closures -/
set_option maxRecDepth 100000 in
set_option maxHeartbeats 2000000 in
theorem partS {W : World} {l : TL} {v : Value} {c i d p q : Nat} (h : Cu W l v c i) (hG : GlobW W) (hll : l.length ≤ 1000000) (hd : d ≤ 21) (hp : W.cell? ⟨p, 0, none⟩ = some (.func (.func 18) #[] #[])) (hq : W.cell? ⟨q, 0, none⟩ = some (.int .i64 (d : Int))) (hpw : p < W.heap.size) (hqw : q < W.heap.size) :
    Calls Tryz.prog 31 #[cpt c, rq p, rq q] W (PostCS W l v c (stR l i d)) := by
  have hcw := h.lt
  obtain ⟨b, rfl, hbr, hrd⟩ := rd_new (d := d) (h.al (.cells #[.int .i64 0, .int .i64 0, .string ⟨#[]⟩, .int .i64 0, .string ⟨#[]⟩, .slice none 0 0, .slice none 0 0, .slice none 0 0] 27)) (by omega) 75
  have C := rstmt_calls ⟨hrd, hG.up (S3.bal2 W _ _)⟩ hll hd
  have hz : (W.alloc (.cells #[.int .i64 0, .int .i64 0, .string ⟨#[]⟩, .int .i64 0, .string ⟨#[]⟩, .slice none 0 0, .slice none 0 0, .slice none 0 0] 27)).heap.size = W.heap.size + 1 := S3.sz1 W _
  rw [hz] at hbr
  simp only [rp, hbr] at C
  have C := Lib.hid C
  have HB := Lib.hid (S3.bal2 W (.cells #[.int .i64 0, .int .i64 0, .string ⟨#[]⟩, .int .i64 0, .string ⟨#[]⟩, .slice none 0 0, .slice none 0 0, .slice none 0 0] 27) (.cells #[cpt b.c, .int .i64 (d : Int)] 75))
  have Q := Lib.hid (R8.new W (.int .i64 0) (.int .i64 0) (.string ⟨#[]⟩) (.int .i64 0) (.string ⟨#[]⟩) (.slice none 0 0) (.slice none 0 0) (.slice none 0 0))
  have hz2 := S3.sz1 (W.alloc (.cells #[.int .i64 0, .int .i64 0, .string ⟨#[]⟩, .int .i64 0, .string ⟨#[]⟩, .slice none 0 0, .slice none 0 0, .slice none 0 0] 27)) (.cells #[cpt b.c, .int .i64 (d : Int)] 75)
  rw [hz] at hz2
  have Q2 := Lib.hid (Q.out.bel (S3.bal (W.alloc (.cells #[.int .i64 0, .int .i64 0, .string ⟨#[]⟩, .int .i64 0, .string ⟨#[]⟩, .slice none 0 0, .slice none 0 0, .slice none 0 0] 27)) (.cells #[cpt b.c, .int .i64 (d : Int)] 75)))
  clear h hrd hz Q hG
  generalize stR l i d = r at *
  go_enter Tryz.func31, Tryz.ntmps31
  go_wp2_with fail
  refine C.out.mono ?_
  clear C
  generalize (W.alloc (.cells #[.int .i64 0, .int .i64 0, .string ⟨#[]⟩, .int .i64 0, .string ⟨#[]⟩, .slice none 0 0, .slice none 0 0, .slice none 0 0] 27)).alloc (.cells #[cpt b.c, .int .i64 (d : Int)] 75) = w2 at *
  intro E w4 hP
  cases r with
  | bad j k =>
    obtain ⟨rfl, hf⟩ := hP
    have HF := Lib.hid (hf.toC HB.out (by omega))
    clear hf
    go_wp2_with fail
    exact ⟨rfl, rfl, HF.out⟩
  | ok s n =>
    obtain ⟨va, vb, ve, rfl, hS, hr, hf⟩ := hP
    obtain ⟨Aa, ca, rfl⟩ := hS.a.slice
    obtain ⟨Ab, cb, rfl⟩ := hS.b.slice
    obtain ⟨Ae, ce, rfl⟩ := hS.e.slice
    obtain ⟨x0, x1, x2, x3, x4, x5, x6, x7, hrow⟩ := Q2.out
    have hq2 := (show R8 w4 W.heap.size from ⟨_, _, _, _, _, _, _, _, (hf.blk W.heap.size (by omega) (by omega) (by omega)).trans hrow⟩)
    obtain ⟨z0, z1, z2, z3, z4, z5, z6, z7, r0, r1, r2, r3, r4, r5, r6, r7, y0, y1, y2, y3, y4, y5, y6, y7⟩ := hq2.facts
    have hlt4 := hq2.lt
    have HC := Lib.hid (put8_cu hr.cu hcw (.int .i64 s.kind) (.int .i64 s.no) (.string (S3.B s.name)) (.int .i64 s.typ) (.string (S3.B s.callee)) (.slice Aa s.args.length ca) (.slice Ab s.body.length cb) (.slice Ae s.els.length ce))
    have HF := Lib.hid (put8_frc (hf.toC HB.out (by omega)) (Nat.le_refl _) (.int .i64 s.kind) (.int .i64 s.no) (.string (S3.B s.name)) (.int .i64 s.typ) (.string (S3.B s.callee)) (.slice Aa s.args.length ca) (.slice Ab s.body.length cb) (.slice Ae s.els.length ce))
    have HE := Lib.hid ((put8_is hS (show W.heap.size < w2.heap.size by omega) (.int .i64 s.kind) (.int .i64 s.no) (.string (S3.B s.name)) (.int .i64 s.typ) (.string (S3.B s.callee)) (.slice Aa s.args.length ca) (.slice Ab s.body.length cb) (.slice Ae s.els.length ce)).mono (show W.heap.size ≤ w2.heap.size by omega) (Nat.le_refl _))
    clear hr hf hS hrow hq2
    go_wp2_with fail
    exact bodyPost_ret (v := (S3.sV s (.slice Aa s.args.length ca) (.slice Ab s.body.length cb) (.slice Ae s.els.length ce))) (by simp [results, Tryz.results31, go_sem, r0, r1, r2, r3, r4, r5, r6, r7]) rfl ⟨_, _, _, rfl, HE.out, HC.out, HF.out⟩
set_option maxRecDepth 100000 in
set_option maxHeartbeats 2000000 in
theorem partB {W : World} {l : TL} {v : Value} {c i d p q : Nat} (h : Cu W l v c i) (hG : GlobW W) (hll : l.length ≤ 1000000) (hd : d ≤ 21) (hp : W.cell? ⟨p, 0, none⟩ = some (.func (.func 23) #[] #[])) (hq : W.cell? ⟨q, 0, none⟩ = some (.int .i64 (d : Int))) :
    Calls Tryz.prog 38 #[cpt c, rq p, rq q] W (PostCB W l v c (blR l i d)) := by
  obtain ⟨b, rfl, hbr, hrd⟩ := rd_new (d := d) h (by omega) 75
  have C := rblock_calls ⟨hrd, hG.up (S3.bal W _)⟩ hll hd
  simp only [rp, hbr] at C
  have C := Lib.hid C
  have HB := Lib.hid (S3.bal W (.cells #[cpt b.c, .int .i64 (d : Int)] 75))
  clear h hrd hG
  generalize blR l i d = r at *
  go_enter Tryz.func38, Tryz.ntmps38
  go_wp2_with fail
  refine C.out.mono ?_
  clear C
  generalize W.alloc (.cells #[cpt b.c, .int .i64 (d : Int)] 75) = w2 at *
  intro E w4 hP
  cases r with
  | bad j k =>
    obtain ⟨rfl, hf⟩ := hP
    have HF := Lib.hid (hf.toC HB.out (by omega))
    clear hf
    go_wp2_with fail
    exact ⟨rfl, rfl, HF.out⟩
  | ok ss n =>
    obtain ⟨A, m, rfl, hE, hr, hf⟩ := hP
    have HF := Lib.hid (hf.toC HB.out (by omega))
    have HE := Lib.hid (sr_mono hE HB.out.size (Nat.le_refl _))
    have HC := Lib.hid hr.cu
    clear hf hE hr
    go_wp2_with fail
    go_ret
    exact ⟨A, m, rfl, HE.out, HC.out, HF.out⟩
end Go.Proofs.YtipepljmfgjbpaaGreatDoor.E6

namespace Go.Proofs.YtipepljmfgjbpaaGreatDoor.E6
open Go Go.RowKit Go.Proofs.YtipepljmfgjbpaaGreatDoor Go.Proofs.YtipepljmfgjbpaaGreatDoor.E5

abbrev v3 (w : World) : World := ((w.alloc (.cells #[.int .i64 0, .int .i64 0, .string ⟨#[]⟩, .int .i64 0, .string ⟨#[]⟩, .slice none 0 0, .slice none 0 0, .slice none 0 0] 27)).alloc (.cells #[.int .i64 0] 3)).alloc (.cells #[.int .i64 0] 34)
abbrev v4 (w : World) (v : Value) (i : Nat) : World := (v3 w).alloc (cuO v i)
theorem v3_below (w : World) : Below w.heap.size w (v3 w) := ((S3.bal w _).alloc (by simp) _).alloc (by simp; omega) _
theorem v3_size (w : World) : (v3 w).heap.size = w.heap.size + 1 + 1 + 1 := by simp
theorem v3_rows (w : World) : (v3 w).heap[w.heap.size]? = some (.cells #[.int .i64 0, .int .i64 0, .string ⟨#[]⟩, .int .i64 0, .string ⟨#[]⟩, .slice none 0 0, .slice none 0 0, .slice none 0 0] 27 (0, 0)) ∧ (v3 w).heap[w.heap.size + 1]? = some (.cells #[.int .i64 0] 3 (0, 0)) ∧ (v3 w).heap[w.heap.size + 1 + 1]? = some (.cells #[.int .i64 0] 34 (0, 0)) := by
  refine ⟨?_, ?_, ?_⟩
  · rw [Below.heap_alloc _ _ _ (by simp; omega), Below.heap_alloc _ _ _ (by simp)]; exact heap_alloc_new w _
  · rw [Below.heap_alloc _ _ _ (by simp)]
    have := heap_alloc_new (w.alloc (.cells #[.int .i64 0, .int .i64 0, .string ⟨#[]⟩, .int .i64 0, .string ⟨#[]⟩, .slice none 0 0, .slice none 0 0, .slice none 0 0] 27)) (.cells #[.int .i64 0] 3)
    rwa [S3.sz1] at this
  · have := heap_alloc_new ((w.alloc (.cells #[.int .i64 0, .int .i64 0, .string ⟨#[]⟩, .int .i64 0, .string ⟨#[]⟩, .slice none 0 0, .slice none 0 0, .slice none 0 0] 27)).alloc (.cells #[.int .i64 0] 3)) (.cells #[.int .i64 0] 34)
    rwa [S3.sz1, S3.sz1] at this
theorem v4_rows (w : World) (v : Value) (i : Nat) : (v4 w v i).heap[w.heap.size]? = some (.cells #[.int .i64 0, .int .i64 0, .string ⟨#[]⟩, .int .i64 0, .string ⟨#[]⟩, .slice none 0 0, .slice none 0 0, .slice none 0 0] 27 (0, 0)) ∧ (v4 w v i).heap[w.heap.size + 1]? = some (.cells #[.int .i64 0] 3 (0, 0)) ∧ (v4 w v i).heap[w.heap.size + 1 + 1]? = some (.cells #[.int .i64 0] 34 (0, 0)) := by
  obtain ⟨h1, h2, h3⟩ := v3_rows w
  exact ⟨(Below.heap_alloc _ _ _ (by rw [v3_size]; omega)).trans h1, (Below.heap_alloc _ _ _ (by rw [v3_size]; omega)).trans h2, (Below.heap_alloc _ _ _ (by rw [v3_size]; omega)).trans h3⟩
theorem v4_size (w : World) (v : Value) (i : Nat) : (v4 w v i).heap.size = w.heap.size + 1 + 1 + 1 + 1 := by simp
theorem v4_below (w : World) (v : Value) (i : Nat) : Below w.heap.size w (v4 w v i) := (v3_below w).alloc (by rw [v3_size]; omega) _
/-- What stores the result twice, and the two others. -/
def rw8 (w : World) (q p r : Nat) (a0 a1 a2 a3 a4 a5 a6 a7 x y : Value) : World := ((put8 (put8 w q a0 a1 a2 a3 a4 a5 a6 a7) q a0 a1 a2 a3 a4 a5 a6 a7).setCell ⟨p, 0, none⟩ x).setCell ⟨r, 0, none⟩ y
theorem rw8_row {w : World} {q p r : Nat} (h : R8 w q) (hp : q ≠ p) (hr : q ≠ r) (a0 a1 a2 a3 a4 a5 a6 a7 x y : Value) : (rw8 w q p r a0 a1 a2 a3 a4 a5 a6 a7 x y).heap[q]? = some (.cells #[a0, a1, a2, a3, a4, a5, a6, a7] 27 (0, 0)) := by
  unfold rw8
  rw [Below.heap_setCell _ _ _ _ hr, Below.heap_setCell _ _ _ _ hp]
  exact put8_row ⟨_, _, _, _, _, _, _, _, put8_row h a0 a1 a2 a3 a4 a5 a6 a7⟩ a0 a1 a2 a3 a4 a5 a6 a7
theorem rw8_heap (w : World) (q p r : Nat) (a0 a1 a2 a3 a4 a5 a6 a7 x y : Value) (k : Nat) (hq : k ≠ q) (hp : k ≠ p) (hr : k ≠ r) : (rw8 w q p r a0 a1 a2 a3 a4 a5 a6 a7 x y).heap[k]? = w.heap[k]? := by
  unfold rw8
  rw [Below.heap_setCell _ _ _ _ hr, Below.heap_setCell _ _ _ _ hp, put8_heap _ _ _ _ _ _ _ _ _ _ _ hq, put8_heap _ _ _ _ _ _ _ _ _ _ _ hq]
theorem rw8_size (w : World) (q p r : Nat) (a0 a1 a2 a3 a4 a5 a6 a7 x y : Value) : (rw8 w q p r a0 a1 a2 a3 a4 a5 a6 a7 x y).heap.size = w.heap.size := by simp [rw8, World.setCell]
theorem rw8_below {w w1 : World} (hb : Below w.heap.size w w1) {q p r : Nat} (hq : w.heap.size ≤ q) (hp : w.heap.size ≤ p) (hr : w.heap.size ≤ r) (a0 a1 a2 a3 a4 a5 a6 a7 x y : Value) : Below w.heap.size w (rw8 w1 q p r a0 a1 a2 a3 a4 a5 a6 a7 x y) := by
  unfold rw8
  exact ((put8_below (put8_below hb hq a0 a1 a2 a3 a4 a5 a6 a7) hq a0 a1 a2 a3 a4 a5 a6 a7).setCell (p := ⟨p, 0, none⟩) hp _).setCell (p := ⟨r, 0, none⟩) hr _
theorem read_fin0 {w w5 W w7 : World} {q p r n0 : Nat} {a0 a1 a2 a3 a4 a5 a6 a7 x y : Value} {s : St} {va vb ve : Value} (hq : q < w5.heap.size) (hp : p < w5.heap.size) (hr : r < w5.heap.size) (hn : q < n0 ∧ p < n0 ∧ r < n0)
    (h1 : W.heap[q]? = some (.cells #[a0, a1, a2, a3, a4, a5, a6, a7] 27 (0, 0))) (h2 : W.cell? ⟨p, 0, none⟩ = some x) (h3 : W.cell? ⟨r, 0, none⟩ = some y) (hz : W.heap.size = w5.heap.size) (hh : ∀ k, k ≠ q → k ≠ p → k ≠ r → W.heap[k]? = w5.heap[k]?) (hb : Below w.heap.size w W)
    (hE : SIs w5 (Rn n0 w5.heap.size) s va vb ve) (h7 : Below W.drew.heap.size W.drew w7) :
    (w7.cell? ⟨q, 0, none⟩ = some a0 ∧ w7.cell? ⟨q, 1, none⟩ = some a1 ∧ w7.cell? ⟨q, 2, none⟩ = some a2 ∧ w7.cell? ⟨q, 3, none⟩ = some a3 ∧ w7.cell? ⟨q, 4, none⟩ = some a4 ∧ w7.cell? ⟨q, 5, none⟩ = some a5 ∧ w7.cell? ⟨q, 6, none⟩ = some a6 ∧ w7.cell? ⟨q, 7, none⟩ = some a7) ∧ w7.cell? ⟨p, 0, none⟩ = some x ∧ w7.cell? ⟨r, 0, none⟩ = some y ∧ SIs w7 (Rn n0 w7.heap.size) s va vb ve ∧ Below w.heap.size w w7 := by
  have h7 : Below W.heap.size W w7 := ⟨h7.os, h7.tape, h7.output, h7.size, h7.block⟩
  have hz7 := h7.size
  refine ⟨row8_facts ((h7.block q (by omega)).trans h1), (h7.cell (p := ⟨p, 0, none⟩) (by show p < _; omega)).trans h2, (h7.cell (p := ⟨r, 0, none⟩) (by show r < _; omega)).trans h3, ?_, hb.trans (h7.mono hb.size)⟩
  exact hE.keep (fun k hk => ⟨hk.1, by have := hk.2; omega⟩) (fun k _ hk => World.cell?_of_block (w := w5) ((h7.block k (by have := hk.2; omega)).trans (hh k (by have := hk.1; omega) (by have := hk.1; omega) (by have := hk.1; omega))))
theorem read_fin {w w5 w7 : World} {n0 : Nat} {s : St} {va vb ve : Value} {b0 d0 : Value} (q p r : Nat) (a0 a1 a2 a3 a4 a5 a6 a7 x y : Value) (HQ : R8 w5 q) (hpc : w5.cell? ⟨p, 0, none⟩ = some b0) (hrc : w5.cell? ⟨r, 0, none⟩ = some d0) (hp : p < w5.heap.size) (hr : r < w5.heap.size) (hn : q < n0 ∧ p < n0 ∧ r < n0) (hqp : q ≠ p) (hqr : q ≠ r) (hpr : p ≠ r)
    (hwq : w.heap.size ≤ q) (hwp : w.heap.size ≤ p) (hwr : w.heap.size ≤ r) (HB : Below w.heap.size w w5) (hE : SIs w5 (Rn n0 w5.heap.size) s va vb ve) (h7 : Below (rw8 w5 q p r a0 a1 a2 a3 a4 a5 a6 a7 x y).drew.heap.size (rw8 w5 q p r a0 a1 a2 a3 a4 a5 a6 a7 x y).drew w7) :
    (w7.cell? ⟨q, 0, none⟩ = some a0 ∧ w7.cell? ⟨q, 1, none⟩ = some a1 ∧ w7.cell? ⟨q, 2, none⟩ = some a2 ∧ w7.cell? ⟨q, 3, none⟩ = some a3 ∧ w7.cell? ⟨q, 4, none⟩ = some a4 ∧ w7.cell? ⟨q, 5, none⟩ = some a5 ∧ w7.cell? ⟨q, 6, none⟩ = some a6 ∧ w7.cell? ⟨q, 7, none⟩ = some a7) ∧ w7.cell? ⟨p, 0, none⟩ = some x ∧ w7.cell? ⟨r, 0, none⟩ = some y ∧ SIs w7 (Rn n0 w7.heap.size) s va vb ve ∧ Below w.heap.size w w7 := by
  have hlt := HQ.lt
  have hp1 := put8_heap (put8 w5 q a0 a1 a2 a3 a4 a5 a6 a7) q a0 a1 a2 a3 a4 a5 a6 a7
  have hp2 := put8_heap w5 q a0 a1 a2 a3 a4 a5 a6 a7
  have h2 : (rw8 w5 q p r a0 a1 a2 a3 a4 a5 a6 a7 x y).cell? ⟨p, 0, none⟩ = some x := by
    unfold rw8
    generalize put8 (put8 w5 q a0 a1 a2 a3 a4 a5 a6 a7) q a0 a1 a2 a3 a4 a5 a6 a7 = W at *
    have e : W.cell? ⟨p, 0, none⟩ = w5.cell? ⟨p, 0, none⟩ := World.cell?_of_block (w := w5) ((hp1 p (Ne.symm hqp)).trans (hp2 p (Ne.symm hqp)))
    have e2 : ((W.setCell ⟨p, 0, none⟩ x).setCell ⟨r, 0, none⟩ y).cell? ⟨p, 0, none⟩ = (W.setCell ⟨p, 0, none⟩ x).cell? ⟨p, 0, none⟩ := World.cell?_of_block (w := W.setCell ⟨p, 0, none⟩ x) (Below.heap_setCell (W.setCell ⟨p, 0, none⟩ x) ⟨r, 0, none⟩ y p hpr)
    exact e2.trans (World.cell?_setCell_same _ _ _ (e.trans hpc))
  have h3 : (rw8 w5 q p r a0 a1 a2 a3 a4 a5 a6 a7 x y).cell? ⟨r, 0, none⟩ = some y := by
    unfold rw8
    generalize put8 (put8 w5 q a0 a1 a2 a3 a4 a5 a6 a7) q a0 a1 a2 a3 a4 a5 a6 a7 = W at *
    have e : (W.setCell ⟨p, 0, none⟩ x).cell? ⟨r, 0, none⟩ = w5.cell? ⟨r, 0, none⟩ := World.cell?_of_block (w := w5) ((Below.heap_setCell W ⟨p, 0, none⟩ x r (Ne.symm hpr)).trans ((hp1 r (Ne.symm hqr)).trans (hp2 r (Ne.symm hqr))))
    exact World.cell?_setCell_same _ _ _ (e.trans hrc)
  have h1 := rw8_row HQ hqp hqr a0 a1 a2 a3 a4 a5 a6 a7 x y
  have h4 := rw8_size w5 q p r a0 a1 a2 a3 a4 a5 a6 a7 x y
  have h5 := rw8_heap w5 q p r a0 a1 a2 a3 a4 a5 a6 a7 x y
  have h6 := rw8_below HB hwq hwp hwr a0 a1 a2 a3 a4 a5 a6 a7 x y
  clear hp1 hp2
  generalize rw8 w5 q p r a0 a1 a2 a3 a4 a5 a6 a7 x y = W at *
  exact read_fin0 hlt hp hr hn h1 h2 h3 h4 h5 h6 hE h7
theorem rs_fin0 {w w5 W w7 : World} {p r n0 : Nat} {x y : Value} {l : List St} {v : Value} (hp : p < w5.heap.size) (hr : r < w5.heap.size) (hn : p < n0 ∧ r < n0)
    (h2 : W.cell? ⟨p, 0, none⟩ = some x) (h3 : W.cell? ⟨r, 0, none⟩ = some y) (hz : W.heap.size = w5.heap.size) (hh : ∀ k, k ≠ p → k ≠ r → W.heap[k]? = w5.heap[k]?) (hb : Below w.heap.size w W)
    (hE : S3.SR w5 (Rn n0 w5.heap.size) l v) (h7 : Below W.drew.heap.size W.drew w7) :
    w7.cell? ⟨p, 0, none⟩ = some x ∧ w7.cell? ⟨r, 0, none⟩ = some y ∧ S3.SR w7 (Rn n0 w7.heap.size) l v ∧ Below w.heap.size w w7 := by
  have h7 : Below W.heap.size W w7 := ⟨h7.os, h7.tape, h7.output, h7.size, h7.block⟩
  have hz7 := h7.size
  refine ⟨(h7.cell (p := ⟨p, 0, none⟩) (by show p < _; omega)).trans h2, (h7.cell (p := ⟨r, 0, none⟩) (by show r < _; omega)).trans h3, ?_, hb.trans (h7.mono hb.size)⟩
  exact hE.keep (fun k hk => ⟨hk.1, by have := hk.2; omega⟩) (fun k _ hk => World.cell?_of_block (w := w5) ((h7.block k (by have := hk.2; omega)).trans (hh k (by have := hk.1; omega) (by have := hk.1; omega))))
theorem rs_fin {w w5 w7 : World} {n0 : Nat} {l : List St} {v : Value} {b0 d0 : Value} (p r : Nat) (x y : Value) (hpc : w5.cell? ⟨p, 0, none⟩ = some b0) (hrc : w5.cell? ⟨r, 0, none⟩ = some d0) (hp : p < w5.heap.size) (hr : r < w5.heap.size) (hn : p < n0 ∧ r < n0) (hpr : p ≠ r)
    (hwp : w.heap.size ≤ p) (hwr : w.heap.size ≤ r) (HB : Below w.heap.size w w5) (hE : S3.SR w5 (Rn n0 w5.heap.size) l v) (h7 : Below ((w5.setCell ⟨p, 0, none⟩ x).setCell ⟨r, 0, none⟩ y).drew.heap.size ((w5.setCell ⟨p, 0, none⟩ x).setCell ⟨r, 0, none⟩ y).drew w7) :
    w7.cell? ⟨p, 0, none⟩ = some x ∧ w7.cell? ⟨r, 0, none⟩ = some y ∧ S3.SR w7 (Rn n0 w7.heap.size) l v ∧ Below w.heap.size w w7 := by
  have e1 : (w5.setCell ⟨p, 0, none⟩ x).cell? ⟨p, 0, none⟩ = some x := World.cell?_setCell_same _ _ _ hpc
  have e2 : ((w5.setCell ⟨p, 0, none⟩ x).setCell ⟨r, 0, none⟩ y).cell? ⟨p, 0, none⟩ = (w5.setCell ⟨p, 0, none⟩ x).cell? ⟨p, 0, none⟩ := World.cell?_of_block (w := w5.setCell ⟨p, 0, none⟩ x) (Below.heap_setCell (w5.setCell ⟨p, 0, none⟩ x) ⟨r, 0, none⟩ y p hpr)
  have e3 : (w5.setCell ⟨p, 0, none⟩ x).cell? ⟨r, 0, none⟩ = w5.cell? ⟨r, 0, none⟩ := World.cell?_of_block (w := w5) (Below.heap_setCell w5 ⟨p, 0, none⟩ x r (Ne.symm hpr))
  have e4 : ((w5.setCell ⟨p, 0, none⟩ x).setCell ⟨r, 0, none⟩ y).cell? ⟨r, 0, none⟩ = some y := World.cell?_setCell_same _ _ _ (e3.trans hrc)
  have e5 : ((w5.setCell ⟨p, 0, none⟩ x).setCell ⟨r, 0, none⟩ y).heap.size = w5.heap.size := by simp [World.setCell]
  have e6 : ∀ k, k ≠ p → k ≠ r → ((w5.setCell ⟨p, 0, none⟩ x).setCell ⟨r, 0, none⟩ y).heap[k]? = w5.heap[k]? := fun k h1 h2 => (Below.heap_setCell _ ⟨r, 0, none⟩ y k h2).trans (Below.heap_setCell w5 ⟨p, 0, none⟩ x k h1)
  have e7 : Below w.heap.size w ((w5.setCell ⟨p, 0, none⟩ x).setCell ⟨r, 0, none⟩ y) := (HB.setCell (p := ⟨p, 0, none⟩) hwp _).setCell (p := ⟨r, 0, none⟩) hwr _
  have e8 := e2.trans e1
  clear e1 e2 e3
  generalize (w5.setCell ⟨p, 0, none⟩ x).setCell ⟨r, 0, none⟩ y = W at *
  exact rs_fin0 hp hr hn e8 e4 e5 e6 e7 hE h7
set_option maxRecDepth 100000 in
set_option maxHeartbeats 4000000 in
theorem creadS_bad {w : World} {l : TL} {v : Value} {i : Nat} (hT : TokL w w.heap.size v l) (hG : GlobE w) (hi : i ≤ l.length) (p q : Nat) (j : Nat) (c : Int)
    (C : ∀ W c', Cu W l v c' i → Below w.heap.size w W → Calls Tryz.prog 31 #[cpt c', rq p, rq q] W (PostCS W l v c' (.bad j c))) :
    Calls Tryz.prog 30 #[v, .int .i64 (i : Int), .func (.func 31) #[] #[rq p, rq q]] w (PostPS w (.bad j c)) := by
  have hmf : ∀ (fn : Fn) (first cap : Array Value) (w : World), (Instr.makeFunc fn first cap).run Tryz.prog w = .ok (.func fn first cap) w := fun _ _ _ _ => rfl
  have hz4 := v4_size w v i
  have C := C (v4 w v i) _ (cu_new hT hG hi (v3_below w)) (v4_below w v i)
  simp only [cpt, v3_size] at C
  have C := Lib.hid C
  obtain ⟨A, k, rfl, hle, _⟩ := hT
  have q1 : ¬ (i : Int) < 0 := by omega
  have q2 : ¬ (l.length : Int) < (i : Int) := by omega
  clear hG
  go_enter_defers Tryz.func30, Tryz.ntmps30
  go_wp2_with fail
  refine C.out.mono ?_
  rintro E w5 ⟨rfl, hf⟩
  obtain ⟨g1, g2, g3⟩ := v4_rows w (.slice A l.length k) i
  have g1 := (hf.block _ (by rw [hz4]; omega) (by omega)).trans g1
  have g2 := (hf.block _ (by rw [hz4]; omega) (by omega)).trans g2
  have g3 := (hf.block _ (by rw [hz4]; omega) (by omega)).trans g3
  have hbel := (v4_below w (.slice A l.length k) i).trans (hf.below (M := w.heap.size) (by omega) (by rw [hz4]; omega))
  have hz5 := hf.size
  rw [hz4] at hz5
  clear hf C
  go_wp2_with fail
  refine leaves_cons (f := 42) (args := #[rq (w.heap.size + 1), rq (w.heap.size + 1 + 1)]) (by simp) (by simp [go_sem]) ?_
  refine (catchS_panicking (w.heap.size + 1) (w.heap.size + 1 + 1) 0 0 j c [] w5 (one_facts g2).1 (one_facts g3).1 (one_facts g2).2 (one_facts g3).2 (by omega) (by omega) (by omega)).mono ?_
  rintro e u' w6 ⟨rfl, rfl, hfr, hp, hq⟩
  obtain ⟨r0, r1, r2, r3, r4, r5, r6, r7⟩ := row8_facts ((hfr.block _ (by omega) (by omega) (by omega)).trans g1)
  have hb6 := hbel.trans (hfr.below (M := w.heap.size) (by omega) (by omega) (by omega))
  exact ⟨.tuple #[S3.sV zS (.slice none 0 0) (.slice none 0 0) (.slice none 0 0), .int .i64 (j : Int), .int .i64 c], by simp [results, Tryz.results30, go_sem, r0, r1, r2, r3, r4, r5, r6, r7, hp, hq, zS], rfl, hb6⟩
set_option maxRecDepth 100000 in
set_option maxHeartbeats 4000000 in
theorem creadS_ok {w : World} {l : TL} {v : Value} {i : Nat} (hT : TokL w w.heap.size v l) (hG : GlobE w) (hi : i ≤ l.length) (p q : Nat) (s : St) (n : Nat)
    (C : ∀ W c', Cu W l v c' i → Below w.heap.size w W → Calls Tryz.prog 31 #[cpt c', rq p, rq q] W (PostCS W l v c' (.ok s n))) :
    Calls Tryz.prog 30 #[v, .int .i64 (i : Int), .func (.func 31) #[] #[rq p, rq q]] w (PostPS w (.ok s n)) := by
  have hmf : ∀ (fn : Fn) (first cap : Array Value) (w : World), (Instr.makeFunc fn first cap).run Tryz.prog w = .ok (.func fn first cap) w := fun _ _ _ _ => rfl
  have hz4 := v4_size w v i
  have C := C (v4 w v i) _ (cu_new hT hG hi (v3_below w)) (v4_below w v i)
  simp only [cpt, v3_size] at C
  have C := Lib.hid C
  obtain ⟨A, k, rfl, hle, _⟩ := hT
  have q1 : ¬ (i : Int) < 0 := by omega
  have q2 : ¬ (l.length : Int) < (i : Int) := by omega
  clear hG
  go_enter_defers Tryz.func30, Tryz.ntmps30
  go_wp2_with fail
  refine C.out.mono ?_
  rintro E w5 ⟨va, vb, ve, rfl, hS, hr, hf⟩
  obtain ⟨Aa, ca, rfl⟩ := hS.a.slice
  obtain ⟨Ab, cb, rfl⟩ := hS.b.slice
  obtain ⟨Ae, ce, rfl⟩ := hS.e.slice
  have hE := hS
  obtain ⟨g1, g2, g3⟩ := v4_rows w (.slice A l.length k) i
  have g1 := (hf.block _ (by rw [hz4]; omega) (by omega)).trans g1
  have g2 := (hf.block _ (by rw [hz4]; omega) (by omega)).trans g2
  have g3 := (hf.block _ (by rw [hz4]; omega) (by omega)).trans g3
  have hbel := (v4_below w (.slice A l.length k) i).trans (hf.below (M := w.heap.size) (by omega) (by rw [hz4]; omega))
  have hz5 := hf.size
  rw [hz4] at hz5 hE
  obtain ⟨z0, z1, z2, z3, z4, z5, z6, z7, r0, r1, r2, r3, r4, r5, r6, r7, y0, y1, y2, y3, y4, y5, y6, y7⟩ := (show R8 w5 w.heap.size from ⟨_, _, _, _, _, _, _, _, g1⟩).facts
  obtain ⟨b0, b1⟩ := one_facts g2
  obtain ⟨d0, d1⟩ := one_facts g3
  obtain ⟨c0, c1', f1⟩ := hr.cells
  have HE := Lib.hid hE
  have HB := Lib.hid hbel
  have hlt5 := hr.lt
  have HQ0 := Lib.hid (show R8 w5 w.heap.size from ⟨_, _, _, _, _, _, _, _, g1⟩)
  clear hf C g1 g2 g3 hE hS hr hbel
  go_wp2_with fail
  go_region
  go_wp2_with fail
  refine leaves_cons (f := 42) (args := #[rq (w.heap.size + 1), rq (w.heap.size + 1 + 1)]) (by simp) (by simp [go_sem]) ?_
  refine (catchS_idle (w.heap.size + 1) (w.heap.size + 1 + 1) _).mono ?_
  rintro e' u' w7 ⟨rfl, rfl, hb7⟩
  obtain ⟨⟨s0, s1, s2, s3, s4, s5, s6, s7⟩, k5, k6, hE7, hb⟩ := read_fin w.heap.size (w.heap.size + 1) (w.heap.size + 1 + 1) (.int .i64 s.kind) (.int .i64 s.no) (.string (S3.B s.name)) (.int .i64 s.typ) (.string (S3.B s.callee)) (.slice Aa s.args.length ca) (.slice Ab s.body.length cb) (.slice Ae s.els.length ce) (.int .i64 (n : Int)) (.int .i64 0) HQ0.out b0 d0 (by omega) (by omega) ⟨by omega, by omega, by omega⟩ (by omega) (by omega) (by omega) (by omega) (by omega) (by omega) HB.out HE.out hb7
  exact ⟨.tuple #[S3.sV s (.slice Aa s.args.length ca) (.slice Ab s.body.length cb) (.slice Ae s.els.length ce), .int .i64 (n : Int), .int .i64 0], by simp [results, Tryz.results30, go_sem, s0, s1, s2, s3, s4, s5, s6, s7, k5, k6], _, _, _, rfl, hE7.mono (by omega) (Nat.le_refl _), hb⟩
set_option maxRecDepth 100000 in
set_option maxHeartbeats 4000000 in
theorem creadS_range {w : World} {n c : Nat} {A : Option Addr} (i : Int) (f : Value) (h : i < 0 ∨ (n : Int) < i) :
    Calls Tryz.prog 30 #[.slice A n c, .int .i64 i, f] w fun E w' => E = .returned (.tuple #[S3.sV zS (.slice none 0 0) (.slice none 0 0) (.slice none 0 0), .int .i64 0, .int .i64 3]) ∧ Below w.heap.size w w' := by
  rcases (show i < 0 ∨ (¬ i < 0 ∧ (n : Int) < i) by omega) with h1 | ⟨h1, h2⟩
  all_goals
    clear h
    go_enter_defers Tryz.func30, Tryz.ntmps30
    go_wp2_with fail
    exact ⟨.tuple #[S3.sV zS (.slice none 0 0) (.slice none 0 0) (.slice none 0 0), .int .i64 0, .int .i64 3], by simp [results, Tryz.results30, go_sem, zS], rfl, ((S3.bal w _).alloc (by simp) _).alloc (by simp; omega) _⟩
set_option maxRecDepth 100000 in
set_option maxHeartbeats 4000000 in
theorem creadB_bad {w : World} {l : TL} {v : Value} {i : Nat} (hT : TokL w w.heap.size v l) (hG : GlobE w) (hi : i ≤ l.length) (p q : Nat) (j : Nat) (c : Int)
    (C : ∀ W c', Cu W l v c' i → Below w.heap.size w W → Calls Tryz.prog 38 #[cpt c', rq p, rq q] W (PostCB W l v c' (.bad j c))) :
    Calls Tryz.prog 37 #[v, .int .i64 (i : Int), .func (.func 38) #[] #[rq p, rq q]] w (PostPB w (.bad j c)) := by
  have hmf : ∀ (fn : Fn) (first cap : Array Value) (w : World), (Instr.makeFunc fn first cap).run Tryz.prog w = .ok (.func fn first cap) w := fun _ _ _ _ => rfl
  have hz4 := x3_size w v i
  have C := C (x3 w v i) _ (cu_new hT hG hi (x2_below w)) (x3_below w v i)
  simp only [cpt, x2_size] at C
  have C := Lib.hid C
  obtain ⟨A, k, rfl, hle, _⟩ := hT
  have q1 : ¬ (i : Int) < 0 := by omega
  have q2 : ¬ (l.length : Int) < (i : Int) := by omega
  clear hG
  go_enter_defers Tryz.func37, Tryz.ntmps37
  go_wp2_with fail
  refine C.out.mono ?_
  rintro E w5 ⟨rfl, hf⟩
  obtain ⟨g2, g3⟩ := x3_rows w (.slice A l.length k) i
  have g2 := (hf.block _ (by rw [hz4]; omega) (by omega)).trans g2
  have g3 := (hf.block _ (by rw [hz4]; omega) (by omega)).trans g3
  have hbel := (x3_below w (.slice A l.length k) i).trans (hf.below (M := w.heap.size) (by omega) (by rw [hz4]; omega))
  have hz5 := hf.size
  rw [hz4] at hz5
  clear hf C
  go_wp2_with fail
  refine leaves_cons (f := 55) (args := #[rq w.heap.size, rq (w.heap.size + 1)]) (by simp) (by simp [go_sem]) ?_
  refine (catchB_panicking w.heap.size (w.heap.size + 1) 0 0 j c [] w5 (one_facts g2).1 (one_facts g3).1 (one_facts g2).2 (one_facts g3).2 (by omega) (by omega) (by omega)).mono ?_
  rintro e u' w6 ⟨rfl, rfl, hfr, hp, hq⟩
  have hb6 := hbel.trans (hfr.below (M := w.heap.size) (by omega) (by omega) (by omega))
  exact ⟨.tuple #[.slice none 0 0, .int .i64 (j : Int), .int .i64 c], by simp [results, Tryz.results37, go_sem, hp, hq], rfl, hb6⟩
set_option maxRecDepth 100000 in
set_option maxHeartbeats 4000000 in
theorem creadB_ok {w : World} {l : TL} {v : Value} {i : Nat} (hT : TokL w w.heap.size v l) (hG : GlobE w) (hi : i ≤ l.length) (p q : Nat) (ss : List St) (n : Nat)
    (C : ∀ W c', Cu W l v c' i → Below w.heap.size w W → Calls Tryz.prog 38 #[cpt c', rq p, rq q] W (PostCB W l v c' (.ok ss n))) :
    Calls Tryz.prog 37 #[v, .int .i64 (i : Int), .func (.func 38) #[] #[rq p, rq q]] w (PostPB w (.ok ss n)) := by
  have hmf : ∀ (fn : Fn) (first cap : Array Value) (w : World), (Instr.makeFunc fn first cap).run Tryz.prog w = .ok (.func fn first cap) w := fun _ _ _ _ => rfl
  have hz4 := x3_size w v i
  have C := C (x3 w v i) _ (cu_new hT hG hi (x2_below w)) (x3_below w v i)
  simp only [cpt, x2_size] at C
  have C := Lib.hid C
  obtain ⟨A, k, rfl, hle, _⟩ := hT
  have q1 : ¬ (i : Int) < 0 := by omega
  have q2 : ¬ (l.length : Int) < (i : Int) := by omega
  clear hG
  go_enter_defers Tryz.func37, Tryz.ntmps37
  go_wp2_with fail
  refine C.out.mono ?_
  rintro E w5 ⟨A1, c1, rfl, hE, hr, hf⟩
  obtain ⟨g2, g3⟩ := x3_rows w (.slice A l.length k) i
  have g2 := (hf.block _ (by rw [hz4]; omega) (by omega)).trans g2
  have g3 := (hf.block _ (by rw [hz4]; omega) (by omega)).trans g3
  have hbel := (x3_below w (.slice A l.length k) i).trans (hf.below (M := w.heap.size) (by omega) (by rw [hz4]; omega))
  have hz5 := hf.size
  rw [hz4] at hz5 hE
  obtain ⟨b0, b1⟩ := one_facts g2
  obtain ⟨d0, d1⟩ := one_facts g3
  obtain ⟨c0, c1', f1⟩ := hr.cells
  have HE := Lib.hid hE
  have HB := Lib.hid hbel
  have hlt5 := hr.lt
  clear hf C g2 g3 hE hr hbel
  go_wp2_with fail
  go_region
  go_wp2_with fail
  refine leaves_cons (f := 55) (args := #[rq w.heap.size, rq (w.heap.size + 1)]) (by simp) (by simp [go_sem]) ?_
  refine (catchB_idle w.heap.size (w.heap.size + 1) _).mono ?_
  rintro e' u' w7 ⟨rfl, rfl, hb7⟩
  obtain ⟨k5, k6, hE7, hb⟩ := rs_fin w.heap.size (w.heap.size + 1) (.int .i64 (n : Int)) (.int .i64 0) b0 d0 (by omega) (by omega) ⟨by omega, by omega⟩ (by omega) (by omega) (by omega) HB.out HE.out hb7
  exact ⟨.tuple #[.slice A1 ss.length c1, .int .i64 (n : Int), .int .i64 0], by simp [results, Tryz.results37, go_sem, k5, k6], A1, c1, rfl, sr_mono hE7 (by omega) (Nat.le_refl _), hb⟩
set_option maxRecDepth 100000 in
set_option maxHeartbeats 4000000 in
theorem creadB_range {w : World} {n c : Nat} {A : Option Addr} (i : Int) (f : Value) (h : i < 0 ∨ (n : Int) < i) :
    Calls Tryz.prog 37 #[.slice A n c, .int .i64 i, f] w fun E w' => E = .returned (.tuple #[.slice none 0 0, .int .i64 0, .int .i64 3]) ∧ Below w.heap.size w w' := by
  rcases (show i < 0 ∨ (¬ i < 0 ∧ (n : Int) < i) by omega) with h1 | ⟨h1, h2⟩
  all_goals
    clear h
    go_enter_defers Tryz.func37, Tryz.ntmps37
    go_wp2_with fail
    exact ⟨.tuple #[.slice none 0 0, .int .i64 0, .int .i64 3], by simp [results, Tryz.results37, go_sem], rfl, (S3.bal w _).alloc (by simp) _⟩
end Go.Proofs.YtipepljmfgjbpaaGreatDoor.E6

namespace Go.Proofs.YtipepljmfgjbpaaGreatDoor.E6
open Go Go.RowKit Go.Proofs.YtipepljmfgjbpaaGreatDoor Go.Proofs.YtipepljmfgjbpaaGreatDoor.E5

abbrev yS (w : World) (d : Nat) : World := ((w.alloc (.cells #[.int .i64 (d : Int)] 3)).alloc (.cells #[.func (.func 18) #[] #[]] 53)).alloc (.cells #[.int .i64 0, .int .i64 0, .string ⟨#[]⟩, .int .i64 0, .string ⟨#[]⟩, .slice none 0 0, .slice none 0 0, .slice none 0 0] 27)
theorem yS_size (w : World) (d : Nat) : (yS w d).heap.size = w.heap.size + 1 + 1 + 1 := by simp
theorem yS_below (w : World) (d : Nat) : Below w.heap.size w (yS w d) := ((S3.bal w _).alloc (by simp) _).alloc (by simp; omega) _
theorem yS_cells (w : World) (d : Nat) : (yS w d).cell? ⟨w.heap.size + 1, 0, none⟩ = some (.func (.func 18) #[] #[]) ∧ (yS w d).cell? ⟨w.heap.size, 0, none⟩ = some (.int .i64 (d : Int)) := by
  have h1 := S3.newCell w #[.int .i64 (d : Int)] 3 0 _ rfl
  have h2 := S3.newCell (w.alloc (.cells #[.int .i64 (d : Int)] 3)) #[.func (.func 18) #[] #[]] 53 0 _ rfl
  rw [S3.sz1] at h2
  refine ⟨(World.cell?_alloc_lt _ _ _ (by simp)).trans h2, (World.cell?_alloc_lt _ _ _ (by simp; omega)).trans ((World.cell?_alloc_lt _ _ _ (by simp)).trans h1)⟩
abbrev yB (w : World) (d : Nat) : World := (w.alloc (.cells #[.int .i64 (d : Int)] 3)).alloc (.cells #[.func (.func 23) #[] #[]] 61)
theorem yB_size (w : World) (d : Nat) : (yB w d).heap.size = w.heap.size + 1 + 1 := by simp
theorem yB_below (w : World) (d : Nat) : Below w.heap.size w (yB w d) := (S3.bal w _).alloc (by simp) _
theorem yB_cells (w : World) (d : Nat) : (yB w d).cell? ⟨w.heap.size + 1, 0, none⟩ = some (.func (.func 23) #[] #[]) ∧ (yB w d).cell? ⟨w.heap.size, 0, none⟩ = some (.int .i64 (d : Int)) := by
  have h1 := S3.newCell w #[.int .i64 (d : Int)] 3 0 _ rfl
  have h2 := S3.newCell (w.alloc (.cells #[.int .i64 (d : Int)] 3)) #[.func (.func 23) #[] #[]] 61 0 _ rfl
  rw [S3.sz1] at h2
  exact ⟨h2, (World.cell?_alloc_lt _ _ _ (by simp)).trans h1⟩
set_option maxRecDepth 100000 in
set_option maxHeartbeats 4000000 in
theorem readS_small {w : World} {l : TL} {v : Value} {i d : Nat} (hT : TokL w w.heap.size v l) (hG : GlobE w) (hi : i ≤ l.length) (hW : GlobW w) (hll : l.length ≤ 1000000) (hd1 : 1 ≤ d ∧ d ≤ 21) :
    Calls Tryz.prog 17 #[v, .int .i64 (i : Int), .int .i64 (d : Int), .func (.func 18) #[] #[]] w (PostPS w (stR l i d)) := by
  have hmf : ∀ (fn : Fn) (first cap : Array Value) (w : World), (Instr.makeFunc fn first cap).run Tryz.prog w = .ok (.func fn first cap) w := fun _ _ _ _ => rfl
  have hy := yS_below w d
  have hyz := yS_size w d
  obtain ⟨k1, k0⟩ := yS_cells w d
  have hlt : w.heap.size + 1 < (yS w d).heap.size := by rw [hyz]; omega
  have PT := fun (W : World) (c' : Nat) (hC : Cu W l v c' i) (hb : Below (yS w d).heap.size (yS w d) W) => partS (d := d) hC ((hW.up hy).up hb) hll (by omega) ((hb.cell (p := ⟨w.heap.size + 1, 0, none⟩) (by show w.heap.size + 1 < _; omega)).trans k1) ((hb.cell (p := ⟨w.heap.size, 0, none⟩) (by show w.heap.size < _; omega)).trans k0) (Nat.lt_of_lt_of_le hlt hb.size) (Nat.lt_of_lt_of_le (by omega) hb.size)
  have hT2 := (hT.bel hy).keep (M' := (yS w d).heap.size) (by omega) (fun _ _ _ => rfl)
  have hG2 := hG.up hy
  have q3 : ¬ (d : Int) < 1 := by omega
  have q4 : (d : Int) ≤ 21 := by omega
  have q5 : min (d : Int) 21 = (d : Int) := by omega
  cases hB : stR l i d with
  | bad j c =>
    rw [hB] at PT
    have C := Lib.hid (creadS_bad hT2 hG2 hi _ _ j c PT)
    have HY := Lib.hid hy
    have QY := Lib.hid (show R8 (yS w d) (w.heap.size + 1 + 1) from ⟨_, _, _, _, _, _, _, _, by have := heap_alloc_new (((w.alloc (.cells #[.int .i64 (d : Int)] 3)).alloc (.cells #[.func (.func 18) #[] #[]] 53))) (.cells #[.int .i64 0, .int .i64 0, .string ⟨#[]⟩, .int .i64 0, .string ⟨#[]⟩, .slice none 0 0, .slice none 0 0, .slice none 0 0] 27); rwa [S3.sz1, S3.sz1] at this⟩)
    clear hT hG hW hT2 hG2 PT hy hB hyz hlt
    go_enter Tryz.func17, Tryz.ntmps17
    go_wp2_with fail
    refine C.out.mono ?_
    rintro E w1 ⟨rfl, hb⟩
    have HB := Lib.hid (after HY.out hb)
    obtain ⟨z0, z1, z2, z3, z4, z5, z6, z7, r0, r1, r2, r3, r4, r5, r6, r7, y0, y1, y2, y3, y4, y5, y6, y7⟩ := (QY.out.bel hb).facts
    have HF := Lib.hid (put8_below HB.out (q := w.heap.size + 1 + 1) (by omega) (.int .i64 0) (.int .i64 0) (.string ⟨#[]⟩) (.int .i64 0) (.string ⟨#[]⟩) (.slice none 0 0) (.slice none 0 0) (.slice none 0 0))
    have hq1 := (QY.out.bel hb).lt
    clear hb C
    go_wp2_with fail
    exact bodyPost_ret (v := .tuple #[S3.sV zS (.slice none 0 0) (.slice none 0 0) (.slice none 0 0), .int .i64 (j : Int), .int .i64 c]) (by simp [results, Tryz.results17, go_sem, zS, r0, r1, r2, r3, r4, r5, r6, r7]) rfl ⟨rfl, HF.out⟩
  | ok s n =>
    rw [hB] at PT
    have C := Lib.hid (creadS_ok hT2 hG2 hi _ _ s n PT)
    have HY := Lib.hid hy
    have QY := Lib.hid (show R8 (yS w d) (w.heap.size + 1 + 1) from ⟨_, _, _, _, _, _, _, _, by have := heap_alloc_new (((w.alloc (.cells #[.int .i64 (d : Int)] 3)).alloc (.cells #[.func (.func 18) #[] #[]] 53))) (.cells #[.int .i64 0, .int .i64 0, .string ⟨#[]⟩, .int .i64 0, .string ⟨#[]⟩, .slice none 0 0, .slice none 0 0, .slice none 0 0] 27); rwa [S3.sz1, S3.sz1] at this⟩)
    have hyz' := hyz
    clear hT hG hW hT2 hG2 PT hy hB hlt
    go_enter Tryz.func17, Tryz.ntmps17
    go_wp2_with fail
    refine C.out.mono ?_
    rintro E w1 ⟨va, vb, ve, rfl, hS, hb⟩
    obtain ⟨Aa, ca, rfl⟩ := hS.a.slice
    obtain ⟨Ab, cb, rfl⟩ := hS.b.slice
    obtain ⟨Ae, ce, rfl⟩ := hS.e.slice
    have hE := hS
    have HB := Lib.hid (after HY.out hb)
    rw [hyz'] at hE
    obtain ⟨z0, z1, z2, z3, z4, z5, z6, z7, r0, r1, r2, r3, r4, r5, r6, r7, y0, y1, y2, y3, y4, y5, y6, y7⟩ := (QY.out.bel hb).facts
    have HF := Lib.hid (put8_below HB.out (q := w.heap.size + 1 + 1) (by omega) (.int .i64 s.kind) (.int .i64 s.no) (.string (S3.B s.name)) (.int .i64 s.typ) (.string (S3.B s.callee)) (.slice Aa s.args.length ca) (.slice Ab s.body.length cb) (.slice Ae s.els.length ce))
    have HE := Lib.hid ((put8_is hE (show w.heap.size + 1 + 1 < w.heap.size + 1 + 1 + 1 by omega) (.int .i64 s.kind) (.int .i64 s.no) (.string (S3.B s.name)) (.int .i64 s.typ) (.string (S3.B s.callee)) (.slice Aa s.args.length ca) (.slice Ab s.body.length cb) (.slice Ae s.els.length ce)).mono (show w.heap.size ≤ w.heap.size + 1 + 1 + 1 by omega) (Nat.le_refl _))
    have hq1 := (QY.out.bel hb).lt
    clear hb C hE hS hyz hyz'
    go_wp2_with fail
    exact bodyPost_ret (v := .tuple #[S3.sV s (.slice Aa s.args.length ca) (.slice Ab s.body.length cb) (.slice Ae s.els.length ce), .int .i64 (n : Int), .int .i64 0]) (by simp [results, Tryz.results17, go_sem, r0, r1, r2, r3, r4, r5, r6, r7]) rfl ⟨_, _, _, rfl, HE.out, HF.out⟩
set_option maxRecDepth 100000 in
set_option maxHeartbeats 4000000 in
theorem readS_big {w : World} {l : TL} {v : Value} {i d : Nat} (hT : TokL w w.heap.size v l) (hG : GlobE w) (hi : i ≤ l.length) (hW : GlobW w) (hll : l.length ≤ 1000000) (hd1 : 21 < d) :
    Calls Tryz.prog 17 #[v, .int .i64 (i : Int), .int .i64 (d : Int), .func (.func 18) #[] #[]] w (PostPS w (stR l i 21)) := by
  have hmf : ∀ (fn : Fn) (first cap : Array Value) (w : World), (Instr.makeFunc fn first cap).run Tryz.prog w = .ok (.func fn first cap) w := fun _ _ _ _ => rfl
  have hy := yS_below w 21
  have hyz := yS_size w 21
  obtain ⟨k1, k0⟩ := yS_cells w 21
  have hlt : w.heap.size + 1 < (yS w 21).heap.size := by rw [hyz]; omega
  have PT := fun (W : World) (c' : Nat) (hC : Cu W l v c' i) (hb : Below (yS w 21).heap.size (yS w 21) W) => partS (d := 21) hC ((hW.up hy).up hb) hll (by omega) ((hb.cell (p := ⟨w.heap.size + 1, 0, none⟩) (by show w.heap.size + 1 < _; omega)).trans k1) ((hb.cell (p := ⟨w.heap.size, 0, none⟩) (by show w.heap.size < _; omega)).trans k0) (Nat.lt_of_lt_of_le hlt hb.size) (Nat.lt_of_lt_of_le (by omega) hb.size)
  have hT2 := (hT.bel hy).keep (M' := (yS w 21).heap.size) (by omega) (fun _ _ _ => rfl)
  have hG2 := hG.up hy
  have q3 : ¬ (d : Int) < 1 := by omega
  have q4 : ¬ (d : Int) ≤ 21 := by omega
  have q5 : min (d : Int) 21 = 21 := by omega
  cases hB : stR l i 21 with
  | bad j c =>
    rw [hB] at PT
    have C := Lib.hid (creadS_bad hT2 hG2 hi _ _ j c PT)
    have HY := Lib.hid hy
    have QY := Lib.hid (show R8 (yS w 21) (w.heap.size + 1 + 1) from ⟨_, _, _, _, _, _, _, _, by have := heap_alloc_new (((w.alloc (.cells #[.int .i64 ((21 : Nat) : Int)] 3)).alloc (.cells #[.func (.func 18) #[] #[]] 53))) (.cells #[.int .i64 0, .int .i64 0, .string ⟨#[]⟩, .int .i64 0, .string ⟨#[]⟩, .slice none 0 0, .slice none 0 0, .slice none 0 0] 27); rwa [S3.sz1, S3.sz1] at this⟩)
    clear hT hG hW hT2 hG2 PT hy hB hyz hlt
    go_enter Tryz.func17, Tryz.ntmps17
    go_wp2_with fail
    refine C.out.mono ?_
    rintro E w1 ⟨rfl, hb⟩
    have HB := Lib.hid (after HY.out hb)
    obtain ⟨z0, z1, z2, z3, z4, z5, z6, z7, r0, r1, r2, r3, r4, r5, r6, r7, y0, y1, y2, y3, y4, y5, y6, y7⟩ := (QY.out.bel hb).facts
    have HF := Lib.hid (put8_below HB.out (q := w.heap.size + 1 + 1) (by omega) (.int .i64 0) (.int .i64 0) (.string ⟨#[]⟩) (.int .i64 0) (.string ⟨#[]⟩) (.slice none 0 0) (.slice none 0 0) (.slice none 0 0))
    have hq1 := (QY.out.bel hb).lt
    clear hb C
    go_wp2_with fail
    exact bodyPost_ret (v := .tuple #[S3.sV zS (.slice none 0 0) (.slice none 0 0) (.slice none 0 0), .int .i64 (j : Int), .int .i64 c]) (by simp [results, Tryz.results17, go_sem, zS, r0, r1, r2, r3, r4, r5, r6, r7]) rfl ⟨rfl, HF.out⟩
  | ok s n =>
    rw [hB] at PT
    have C := Lib.hid (creadS_ok hT2 hG2 hi _ _ s n PT)
    have HY := Lib.hid hy
    have QY := Lib.hid (show R8 (yS w 21) (w.heap.size + 1 + 1) from ⟨_, _, _, _, _, _, _, _, by have := heap_alloc_new (((w.alloc (.cells #[.int .i64 ((21 : Nat) : Int)] 3)).alloc (.cells #[.func (.func 18) #[] #[]] 53))) (.cells #[.int .i64 0, .int .i64 0, .string ⟨#[]⟩, .int .i64 0, .string ⟨#[]⟩, .slice none 0 0, .slice none 0 0, .slice none 0 0] 27); rwa [S3.sz1, S3.sz1] at this⟩)
    have hyz' := hyz
    clear hT hG hW hT2 hG2 PT hy hB hlt
    go_enter Tryz.func17, Tryz.ntmps17
    go_wp2_with fail
    refine C.out.mono ?_
    rintro E w1 ⟨va, vb, ve, rfl, hS, hb⟩
    obtain ⟨Aa, ca, rfl⟩ := hS.a.slice
    obtain ⟨Ab, cb, rfl⟩ := hS.b.slice
    obtain ⟨Ae, ce, rfl⟩ := hS.e.slice
    have hE := hS
    have HB := Lib.hid (after HY.out hb)
    rw [hyz'] at hE
    obtain ⟨z0, z1, z2, z3, z4, z5, z6, z7, r0, r1, r2, r3, r4, r5, r6, r7, y0, y1, y2, y3, y4, y5, y6, y7⟩ := (QY.out.bel hb).facts
    have HF := Lib.hid (put8_below HB.out (q := w.heap.size + 1 + 1) (by omega) (.int .i64 s.kind) (.int .i64 s.no) (.string (S3.B s.name)) (.int .i64 s.typ) (.string (S3.B s.callee)) (.slice Aa s.args.length ca) (.slice Ab s.body.length cb) (.slice Ae s.els.length ce))
    have HE := Lib.hid ((put8_is hE (show w.heap.size + 1 + 1 < w.heap.size + 1 + 1 + 1 by omega) (.int .i64 s.kind) (.int .i64 s.no) (.string (S3.B s.name)) (.int .i64 s.typ) (.string (S3.B s.callee)) (.slice Aa s.args.length ca) (.slice Ab s.body.length cb) (.slice Ae s.els.length ce)).mono (show w.heap.size ≤ w.heap.size + 1 + 1 + 1 by omega) (Nat.le_refl _))
    have hq1 := (QY.out.bel hb).lt
    clear hb C hE hS hyz hyz'
    go_wp2_with fail
    exact bodyPost_ret (v := .tuple #[S3.sV s (.slice Aa s.args.length ca) (.slice Ab s.body.length cb) (.slice Ae s.els.length ce), .int .i64 (n : Int), .int .i64 0]) (by simp [results, Tryz.results17, go_sem, r0, r1, r2, r3, r4, r5, r6, r7]) rfl ⟨_, _, _, rfl, HE.out, HF.out⟩
set_option maxRecDepth 100000 in
set_option maxHeartbeats 4000000 in
theorem readB_small {w : World} {l : TL} {v : Value} {i d : Nat} (hT : TokL w w.heap.size v l) (hG : GlobE w) (hi : i ≤ l.length) (hW : GlobW w) (hll : l.length ≤ 1000000) (hd1 : 1 ≤ d ∧ d ≤ 21) :
    Calls Tryz.prog 22 #[v, .int .i64 (i : Int), .int .i64 (d : Int), .func (.func 23) #[] #[]] w (PostPB w (blR l i d)) := by
  have hmf : ∀ (fn : Fn) (first cap : Array Value) (w : World), (Instr.makeFunc fn first cap).run Tryz.prog w = .ok (.func fn first cap) w := fun _ _ _ _ => rfl
  have hy := yB_below w d
  have hyz := yB_size w d
  obtain ⟨k1, k0⟩ := yB_cells w d
  have hlt : w.heap.size + 1 < (yB w d).heap.size := by rw [hyz]; omega
  have PT := fun (W : World) (c' : Nat) (hC : Cu W l v c' i) (hb : Below (yB w d).heap.size (yB w d) W) => partB (d := d) hC ((hW.up hy).up hb) hll (by omega) ((hb.cell (p := ⟨w.heap.size + 1, 0, none⟩) (by show w.heap.size + 1 < _; omega)).trans k1) ((hb.cell (p := ⟨w.heap.size, 0, none⟩) (by show w.heap.size < _; omega)).trans k0)
  have hT2 := (hT.bel hy).keep (M' := (yB w d).heap.size) (by omega) (fun _ _ _ => rfl)
  have hG2 := hG.up hy
  have q3 : ¬ (d : Int) < 1 := by omega
  have q4 : (d : Int) ≤ 21 := by omega
  have q5 : min (d : Int) 21 = (d : Int) := by omega
  cases hB : blR l i d with
  | bad j c =>
    rw [hB] at PT
    have C := Lib.hid (creadB_bad hT2 hG2 hi _ _ j c PT)
    have HY := Lib.hid hy
    clear hT hG hW hT2 hG2 PT hy hB hyz hlt
    go_enter Tryz.func22, Tryz.ntmps22
    go_wp2_with fail
    refine C.out.mono ?_
    rintro E w1 ⟨rfl, hb⟩
    have HB := Lib.hid (after HY.out hb)
    clear hb C
    go_wp2_with fail
    go_ret3
    exact ⟨rfl, HB.out⟩
  | ok ss n =>
    rw [hB] at PT
    have C := Lib.hid (creadB_ok hT2 hG2 hi _ _ ss n PT)
    have HY := Lib.hid hy
    have hyz' := hyz
    clear hT hG hW hT2 hG2 PT hy hB hlt
    go_enter Tryz.func22, Tryz.ntmps22
    go_wp2_with fail
    refine C.out.mono ?_
    rintro E w1 ⟨A, c, rfl, hE, hb⟩
    have HB := Lib.hid (after HY.out hb)
    rw [hyz'] at hE
    have HE := Lib.hid (sr_mono hE (show w.heap.size ≤ w.heap.size + 1 + 1 by omega) (Nat.le_refl _))
    clear hb C hE hyz hyz'
    go_wp2_with fail
    go_ret3
    exact ⟨A, c, rfl, HE.out, HB.out⟩
set_option maxRecDepth 100000 in
set_option maxHeartbeats 4000000 in
theorem readB_big {w : World} {l : TL} {v : Value} {i d : Nat} (hT : TokL w w.heap.size v l) (hG : GlobE w) (hi : i ≤ l.length) (hW : GlobW w) (hll : l.length ≤ 1000000) (hd1 : 21 < d) :
    Calls Tryz.prog 22 #[v, .int .i64 (i : Int), .int .i64 (d : Int), .func (.func 23) #[] #[]] w (PostPB w (blR l i 21)) := by
  have hmf : ∀ (fn : Fn) (first cap : Array Value) (w : World), (Instr.makeFunc fn first cap).run Tryz.prog w = .ok (.func fn first cap) w := fun _ _ _ _ => rfl
  have hy := yB_below w 21
  have hyz := yB_size w 21
  obtain ⟨k1, k0⟩ := yB_cells w 21
  have hlt : w.heap.size + 1 < (yB w 21).heap.size := by rw [hyz]; omega
  have PT := fun (W : World) (c' : Nat) (hC : Cu W l v c' i) (hb : Below (yB w 21).heap.size (yB w 21) W) => partB (d := 21) hC ((hW.up hy).up hb) hll (by omega) ((hb.cell (p := ⟨w.heap.size + 1, 0, none⟩) (by show w.heap.size + 1 < _; omega)).trans k1) ((hb.cell (p := ⟨w.heap.size, 0, none⟩) (by show w.heap.size < _; omega)).trans k0)
  have hT2 := (hT.bel hy).keep (M' := (yB w 21).heap.size) (by omega) (fun _ _ _ => rfl)
  have hG2 := hG.up hy
  have q3 : ¬ (d : Int) < 1 := by omega
  have q4 : ¬ (d : Int) ≤ 21 := by omega
  have q5 : min (d : Int) 21 = 21 := by omega
  cases hB : blR l i 21 with
  | bad j c =>
    rw [hB] at PT
    have C := Lib.hid (creadB_bad hT2 hG2 hi _ _ j c PT)
    have HY := Lib.hid hy
    clear hT hG hW hT2 hG2 PT hy hB hyz hlt
    go_enter Tryz.func22, Tryz.ntmps22
    go_wp2_with fail
    refine C.out.mono ?_
    rintro E w1 ⟨rfl, hb⟩
    have HB := Lib.hid (after HY.out hb)
    clear hb C
    go_wp2_with fail
    go_ret3
    exact ⟨rfl, HB.out⟩
  | ok ss n =>
    rw [hB] at PT
    have C := Lib.hid (creadB_ok hT2 hG2 hi _ _ ss n PT)
    have HY := Lib.hid hy
    have hyz' := hyz
    clear hT hG hW hT2 hG2 PT hy hB hlt
    go_enter Tryz.func22, Tryz.ntmps22
    go_wp2_with fail
    refine C.out.mono ?_
    rintro E w1 ⟨A, c, rfl, hE, hb⟩
    have HB := Lib.hid (after HY.out hb)
    rw [hyz'] at hE
    have HE := Lib.hid (sr_mono hE (show w.heap.size ≤ w.heap.size + 1 + 1 by omega) (Nat.le_refl _))
    clear hb C hE hyz hyz'
    go_wp2_with fail
    go_ret3
    exact ⟨A, c, rfl, HE.out, HB.out⟩
end Go.Proofs.YtipepljmfgjbpaaGreatDoor.E6

namespace Go.Proofs.YtipepljmfgjbpaaGreatDoor.E6
open Go Go.RowKit Go.Proofs.YtipepljmfgjbpaaGreatDoor Go.Proofs.YtipepljmfgjbpaaGreatDoor.E5

set_option maxRecDepth 100000 in
set_option maxHeartbeats 4000000 in
theorem readS_lo {w : World} {n c : Nat} {A : Option Addr} (i d : Int) (h : d < 1) :
    Calls Tryz.prog 17 #[.slice A n c, .int .i64 i, .int .i64 d, (.func (.func 18) #[] #[])] w fun E w' => E = .returned (.tuple #[S3.sV zS (.slice none 0 0) (.slice none 0 0) (.slice none 0 0), .int .i64 0, .int .i64 3]) ∧ Below w.heap.size w w' := by
  have hmf : ∀ (fn : Fn) (first cap : Array Value) (w : World), (Instr.makeFunc fn first cap).run Tryz.prog w = .ok (.func fn first cap) w := fun _ _ _ _ => rfl
  go_enter Tryz.func17, Tryz.ntmps17
  go_wp2_with fail
  exact bodyPost_ret (v := .tuple #[S3.sV zS (.slice none 0 0) (.slice none 0 0) (.slice none 0 0), .int .i64 0, .int .i64 3]) (by simp [results, Tryz.results17, go_sem, zS]) rfl ⟨rfl, by repeat (first | exact Below.refl _ _ | (refine Below.alloc ?_ (by first | omega | (simp; try omega)) _))⟩
set_option maxRecDepth 100000 in
set_option maxHeartbeats 4000000 in
theorem readS_rsmall {w : World} {n c : Nat} {A : Option Addr} (i d : Int) (h : i < 0 ∨ (n : Int) < i) (d0 : Nat) (hd0 : d = (d0 : Int)) (h1 : 1 ≤ d0 ∧ d0 ≤ 21) :
    Calls Tryz.prog 17 #[.slice A n c, .int .i64 i, .int .i64 d, (.func (.func 18) #[] #[])] w fun E w' => E = .returned (.tuple #[S3.sV zS (.slice none 0 0) (.slice none 0 0) (.slice none 0 0), .int .i64 0, .int .i64 3]) ∧ Below w.heap.size w w' := by
  have hmf : ∀ (fn : Fn) (first cap : Array Value) (w : World), (Instr.makeFunc fn first cap).run Tryz.prog w = .ok (.func fn first cap) w := fun _ _ _ _ => rfl
  subst hd0
  have C := Lib.hid (creadS_range (w := yS w d0) (n := n) (c := c) (A := A) i (.func (.func 31) #[] #[rq (w.heap.size + 1), rq w.heap.size]) h)
  have HY := Lib.hid (yS_below w d0)
  have q3 : ¬ (d0 : Int) < 1 := by omega
  have q4 : (d0 : Int) ≤ 21 := by omega
  have q5 : min (d0 : Int) 21 = (d0 : Int) := by omega
  have QY := Lib.hid (show R8 (yS w d0) (w.heap.size + 1 + 1) from ⟨_, _, _, _, _, _, _, _, by have := heap_alloc_new (((w.alloc (.cells #[.int .i64 ((d0 : Nat) : Int)] 3)).alloc (.cells #[(.func (.func 18) #[] #[])] 53))) (.cells #[.int .i64 0, .int .i64 0, .string ⟨#[]⟩, .int .i64 0, .string ⟨#[]⟩, .slice none 0 0, .slice none 0 0, .slice none 0 0] 27); rwa [S3.sz1, S3.sz1] at this⟩)
  clear h h1
  go_enter Tryz.func17, Tryz.ntmps17
  go_wp2_with fail
  refine C.out.mono ?_
  rintro E w1 ⟨rfl, hb⟩
  have HB := Lib.hid (after HY.out hb)
  obtain ⟨z0, z1, z2, z3, z4, z5, z6, z7, r0, r1, r2, r3, r4, r5, r6, r7, y0, y1, y2, y3, y4, y5, y6, y7⟩ := (QY.out.bel hb).facts
  have HF := Lib.hid (put8_below HB.out (q := w.heap.size + 1 + 1) (by omega) (.int .i64 0) (.int .i64 0) (.string ⟨#[]⟩) (.int .i64 0) (.string ⟨#[]⟩) (.slice none 0 0) (.slice none 0 0) (.slice none 0 0))
  have hq1 := (QY.out.bel hb).lt
  clear hb C
  go_wp2_with fail
  exact bodyPost_ret (v := .tuple #[S3.sV zS (.slice none 0 0) (.slice none 0 0) (.slice none 0 0), .int .i64 0, .int .i64 3]) (by simp [results, Tryz.results17, go_sem, zS, r0, r1, r2, r3, r4, r5, r6, r7]) rfl ⟨rfl, HF.out⟩
set_option maxRecDepth 100000 in
set_option maxHeartbeats 4000000 in
theorem readS_rbig {w : World} {n c : Nat} {A : Option Addr} (i d : Int) (h : i < 0 ∨ (n : Int) < i) (h1 : 21 < d) :
    Calls Tryz.prog 17 #[.slice A n c, .int .i64 i, .int .i64 d, (.func (.func 18) #[] #[])] w fun E w' => E = .returned (.tuple #[S3.sV zS (.slice none 0 0) (.slice none 0 0) (.slice none 0 0), .int .i64 0, .int .i64 3]) ∧ Below w.heap.size w w' := by
  have hmf : ∀ (fn : Fn) (first cap : Array Value) (w : World), (Instr.makeFunc fn first cap).run Tryz.prog w = .ok (.func fn first cap) w := fun _ _ _ _ => rfl
  have C := Lib.hid (creadS_range (w := yS w 21) (n := n) (c := c) (A := A) i (.func (.func 31) #[] #[rq (w.heap.size + 1), rq w.heap.size]) h)
  have HY := Lib.hid (yS_below w 21)
  have q3 : ¬ d < 1 := by omega
  have q4 : ¬ d ≤ 21 := by omega
  have q5 : min d 21 = 21 := by omega
  have QY := Lib.hid (show R8 (yS w 21) (w.heap.size + 1 + 1) from ⟨_, _, _, _, _, _, _, _, by have := heap_alloc_new (((w.alloc (.cells #[.int .i64 ((21 : Nat) : Int)] 3)).alloc (.cells #[(.func (.func 18) #[] #[])] 53))) (.cells #[.int .i64 0, .int .i64 0, .string ⟨#[]⟩, .int .i64 0, .string ⟨#[]⟩, .slice none 0 0, .slice none 0 0, .slice none 0 0] 27); rwa [S3.sz1, S3.sz1] at this⟩)
  clear h h1
  go_enter Tryz.func17, Tryz.ntmps17
  go_wp2_with fail
  refine C.out.mono ?_
  rintro E w1 ⟨rfl, hb⟩
  have HB := Lib.hid (after HY.out hb)
  obtain ⟨z0, z1, z2, z3, z4, z5, z6, z7, r0, r1, r2, r3, r4, r5, r6, r7, y0, y1, y2, y3, y4, y5, y6, y7⟩ := (QY.out.bel hb).facts
  have HF := Lib.hid (put8_below HB.out (q := w.heap.size + 1 + 1) (by omega) (.int .i64 0) (.int .i64 0) (.string ⟨#[]⟩) (.int .i64 0) (.string ⟨#[]⟩) (.slice none 0 0) (.slice none 0 0) (.slice none 0 0))
  have hq1 := (QY.out.bel hb).lt
  clear hb C
  go_wp2_with fail
  exact bodyPost_ret (v := .tuple #[S3.sV zS (.slice none 0 0) (.slice none 0 0) (.slice none 0 0), .int .i64 0, .int .i64 3]) (by simp [results, Tryz.results17, go_sem, zS, r0, r1, r2, r3, r4, r5, r6, r7]) rfl ⟨rfl, HF.out⟩
set_option maxRecDepth 100000 in
set_option maxHeartbeats 4000000 in
theorem readS_range {w : World} {n c : Nat} {A : Option Addr} (i d : Int) (h : i < 0 ∨ (n : Int) < i ∨ d < 1) :
    Calls Tryz.prog 17 #[.slice A n c, .int .i64 i, .int .i64 d, (.func (.func 18) #[] #[])] w fun E w' => E = .returned (.tuple #[S3.sV zS (.slice none 0 0) (.slice none 0 0) (.slice none 0 0), .int .i64 0, .int .i64 3]) ∧ Below w.heap.size w w' := by
  by_cases hd : d < 1
  · exact readS_lo i d hd
  · by_cases h2 : 21 < d
    · exact readS_rbig i d (by omega) h2
    · obtain ⟨d0, hd0⟩ := Int.eq_ofNat_of_zero_le (show 0 ≤ d by omega)
      exact readS_rsmall i d (by omega) d0 hd0 (by omega)
/-- How deep a reader begins. -/
def depS (d : Nat) : Nat := if 21 < d then 21 else d
theorem readS_calls {w : World} {l : TL} {v : Value} {i d : Nat} (hT : TokL w w.heap.size v l) (hG : GlobE w) (hi : i ≤ l.length) (hW : GlobW w) (hll : l.length ≤ 1000000) (hd : 1 ≤ d) :
    Calls Tryz.prog 17 #[v, .int .i64 (i : Int), .int .i64 (d : Int), (.func (.func 18) #[] #[])] w (PostPS w (stR l i (depS d))) := by
  unfold depS
  by_cases h : 21 < d
  · rw [if_pos h]; exact readS_big hT hG hi hW hll h
  · rw [if_neg h]; exact readS_small hT hG hi hW hll ⟨hd, by omega⟩
set_option maxRecDepth 100000 in
set_option maxHeartbeats 4000000 in
theorem readB_lo {w : World} {n c : Nat} {A : Option Addr} (i d : Int) (h : d < 1) :
    Calls Tryz.prog 22 #[.slice A n c, .int .i64 i, .int .i64 d, (.func (.func 23) #[] #[])] w fun E w' => E = .returned (.tuple #[.slice none 0 0, .int .i64 0, .int .i64 3]) ∧ Below w.heap.size w w' := by
  have hmf : ∀ (fn : Fn) (first cap : Array Value) (w : World), (Instr.makeFunc fn first cap).run Tryz.prog w = .ok (.func fn first cap) w := fun _ _ _ _ => rfl
  go_enter Tryz.func22, Tryz.ntmps22
  go_wp2_with fail
  go_ret3
  exact ⟨rfl, by repeat (first | exact Below.refl _ _ | (refine Below.alloc ?_ (by first | omega | (simp; try omega)) _))⟩
set_option maxRecDepth 100000 in
set_option maxHeartbeats 4000000 in
theorem readB_rsmall {w : World} {n c : Nat} {A : Option Addr} (i d : Int) (h : i < 0 ∨ (n : Int) < i) (d0 : Nat) (hd0 : d = (d0 : Int)) (h1 : 1 ≤ d0 ∧ d0 ≤ 21) :
    Calls Tryz.prog 22 #[.slice A n c, .int .i64 i, .int .i64 d, (.func (.func 23) #[] #[])] w fun E w' => E = .returned (.tuple #[.slice none 0 0, .int .i64 0, .int .i64 3]) ∧ Below w.heap.size w w' := by
  have hmf : ∀ (fn : Fn) (first cap : Array Value) (w : World), (Instr.makeFunc fn first cap).run Tryz.prog w = .ok (.func fn first cap) w := fun _ _ _ _ => rfl
  subst hd0
  have C := Lib.hid (creadB_range (w := yB w d0) (n := n) (c := c) (A := A) i (.func (.func 38) #[] #[rq (w.heap.size + 1), rq w.heap.size]) h)
  have HY := Lib.hid (yB_below w d0)
  have q3 : ¬ (d0 : Int) < 1 := by omega
  have q4 : (d0 : Int) ≤ 21 := by omega
  have q5 : min (d0 : Int) 21 = (d0 : Int) := by omega
  clear h h1
  go_enter Tryz.func22, Tryz.ntmps22
  go_wp2_with fail
  refine C.out.mono ?_
  rintro E w1 ⟨rfl, hb⟩
  have HB := Lib.hid (after HY.out hb)
  clear hb C
  go_wp2_with fail
  go_ret3
  exact ⟨rfl, HB.out⟩
set_option maxRecDepth 100000 in
set_option maxHeartbeats 4000000 in
theorem readB_rbig {w : World} {n c : Nat} {A : Option Addr} (i d : Int) (h : i < 0 ∨ (n : Int) < i) (h1 : 21 < d) :
    Calls Tryz.prog 22 #[.slice A n c, .int .i64 i, .int .i64 d, (.func (.func 23) #[] #[])] w fun E w' => E = .returned (.tuple #[.slice none 0 0, .int .i64 0, .int .i64 3]) ∧ Below w.heap.size w w' := by
  have hmf : ∀ (fn : Fn) (first cap : Array Value) (w : World), (Instr.makeFunc fn first cap).run Tryz.prog w = .ok (.func fn first cap) w := fun _ _ _ _ => rfl
  have C := Lib.hid (creadB_range (w := yB w 21) (n := n) (c := c) (A := A) i (.func (.func 38) #[] #[rq (w.heap.size + 1), rq w.heap.size]) h)
  have HY := Lib.hid (yB_below w 21)
  have q3 : ¬ d < 1 := by omega
  have q4 : ¬ d ≤ 21 := by omega
  have q5 : min d 21 = 21 := by omega
  clear h h1
  go_enter Tryz.func22, Tryz.ntmps22
  go_wp2_with fail
  refine C.out.mono ?_
  rintro E w1 ⟨rfl, hb⟩
  have HB := Lib.hid (after HY.out hb)
  clear hb C
  go_wp2_with fail
  go_ret3
  exact ⟨rfl, HB.out⟩
set_option maxRecDepth 100000 in
set_option maxHeartbeats 4000000 in
theorem readB_range {w : World} {n c : Nat} {A : Option Addr} (i d : Int) (h : i < 0 ∨ (n : Int) < i ∨ d < 1) :
    Calls Tryz.prog 22 #[.slice A n c, .int .i64 i, .int .i64 d, (.func (.func 23) #[] #[])] w fun E w' => E = .returned (.tuple #[.slice none 0 0, .int .i64 0, .int .i64 3]) ∧ Below w.heap.size w w' := by
  by_cases hd : d < 1
  · exact readB_lo i d hd
  · by_cases h2 : 21 < d
    · exact readB_rbig i d (by omega) h2
    · obtain ⟨d0, hd0⟩ := Int.eq_ofNat_of_zero_le (show 0 ≤ d by omega)
      exact readB_rsmall i d (by omega) d0 hd0 (by omega)
theorem readB_calls {w : World} {l : TL} {v : Value} {i d : Nat} (hT : TokL w w.heap.size v l) (hG : GlobE w) (hi : i ≤ l.length) (hW : GlobW w) (hll : l.length ≤ 1000000) (hd : 1 ≤ d) :
    Calls Tryz.prog 22 #[v, .int .i64 (i : Int), .int .i64 (d : Int), (.func (.func 23) #[] #[])] w (PostPB w (blR l i (depS d))) := by
  unfold depS
  by_cases h : 21 < d
  · rw [if_pos h]; exact readB_big hT hG hi hW hll h
  · rw [if_neg h]; exact readB_small hT hG hi hW hll ⟨hd, by omega⟩
theorem pfin {w w1 : World} {o : Obj} (s : St) {va vb ve : Value} (hb : Below (w.alloc o).heap.size (w.alloc o) w1) (hE : SIs w1 (Rn (w.heap.size + 1) w1.heap.size) s va vb ve) (a0 a1 a2 a3 a4 a5 a6 a7 : Value) :
    SIs (put8 w1 w.heap.size a0 a1 a2 a3 a4 a5 a6 a7) (Rn w.heap.size (put8 w1 w.heap.size a0 a1 a2 a3 a4 a5 a6 a7).heap.size) s va vb ve ∧ Below w.heap.size w (put8 w1 w.heap.size a0 a1 a2 a3 a4 a5 a6 a7) :=
  ⟨(put8_is hE (show w.heap.size < w.heap.size + 1 by omega) a0 a1 a2 a3 a4 a5 a6 a7).mono (by omega) (Nat.le_refl _), put8_below (after (S3.bal w o) hb) (q := w.heap.size) (Nat.le_refl _) a0 a1 a2 a3 a4 a5 a6 a7⟩
set_option maxRecDepth 100000 in
set_option maxHeartbeats 4000000 in
theorem sparse_range {w : World} {n c : Nat} {A : Option Addr} (i d : Int) (h : i < 0 ∨ (n : Int) < i ∨ d < 1) :
    Calls Tryz.prog 8 #[.slice A n c, .int .i64 i, .int .i64 d] w fun E w' => E = .returned (.tuple #[S3.sV zS (.slice none 0 0) (.slice none 0 0) (.slice none 0 0), .int .i64 0, .int .i64 3]) ∧ Below w.heap.size w w' := by
  have Q := Lib.hid (R8.new w (.int .i64 0) (.int .i64 0) (.string ⟨#[]⟩) (.int .i64 0) (.string ⟨#[]⟩) (.slice none 0 0) (.slice none 0 0) (.slice none 0 0))
  go_enter Tryz.func8, Tryz.ntmps8
  go_wp2_with fail
  refine (readS_range i d h).mono ?_
  rintro E w1 ⟨rfl, hb⟩
  have HB := Lib.hid (put8_below (after (S3.bal w _) hb) (q := w.heap.size) (Nat.le_refl _) (.int .i64 0) (.int .i64 0) (.string ⟨#[]⟩) (.int .i64 0) (.string ⟨#[]⟩) (.slice none 0 0) (.slice none 0 0) (.slice none 0 0))
  have hq1 := ((Q.out).bel hb).lt
  obtain ⟨z0, z1, z2, z3, z4, z5, z6, z7, r0, r1, r2, r3, r4, r5, r6, r7, y0, y1, y2, y3, y4, y5, y6, y7⟩ := ((Q.out).bel hb).facts
  clear hb
  go_wp2_with fail
  exact bodyPost_ret (v := .tuple #[S3.sV zS (.slice none 0 0) (.slice none 0 0) (.slice none 0 0), .int .i64 0, .int .i64 3]) (by simp [results, Tryz.results8, go_sem, zS, r0, r1, r2, r3, r4, r5, r6, r7]) rfl ⟨rfl, HB.out⟩
set_option maxRecDepth 100000 in
set_option maxHeartbeats 4000000 in
theorem sparse_calls {w : World} {l : TL} {v : Value} {i d : Nat} (hT : TokL w w.heap.size v l) (hG : GlobE w) (hi : i ≤ l.length) (hW : GlobW w) (hll : l.length ≤ 1000000) (hd : 1 ≤ d) :
    Calls Tryz.prog 8 #[v, .int .i64 (i : Int), .int .i64 (d : Int)] w (PostPS w (stR l i (depS d))) := by
  have HT := Lib.hid (fun o => (hT.bel (S3.bal w o)).keep (M' := (w.alloc o).heap.size) (by simp) (fun _ _ _ => rfl))
  have HG := Lib.hid (fun o => hG.up (S3.bal w o))
  have HW := Lib.hid (fun o => hW.up (S3.bal w o))
  have C := Lib.hid (fun o => readS_calls (HT.out o) (HG.out o) hi (HW.out o) hll hd)
  have Q := Lib.hid (R8.new w (.int .i64 0) (.int .i64 0) (.string ⟨#[]⟩) (.int .i64 0) (.string ⟨#[]⟩) (.slice none 0 0) (.slice none 0 0) (.slice none 0 0))
  clear hT hG HT HG hW HW
  generalize stR l i (depS d) = r at *
  go_enter Tryz.func8, Tryz.ntmps8
  go_wp2_with fail
  refine (C.out _).mono ?_
  intro E w1 hP
  cases r with
  | bad j c =>
    obtain ⟨rfl, hb⟩ := hP
    have HB := Lib.hid (put8_below (after (S3.bal w _) hb) (q := w.heap.size) (Nat.le_refl _) (.int .i64 0) (.int .i64 0) (.string ⟨#[]⟩) (.int .i64 0) (.string ⟨#[]⟩) (.slice none 0 0) (.slice none 0 0) (.slice none 0 0))
    have hq1 := ((Q.out).bel hb).lt
    obtain ⟨z0, z1, z2, z3, z4, z5, z6, z7, r0, r1, r2, r3, r4, r5, r6, r7, y0, y1, y2, y3, y4, y5, y6, y7⟩ := ((Q.out).bel hb).facts
    clear hb
    go_wp2_with fail
    exact bodyPost_ret (v := .tuple #[S3.sV zS (.slice none 0 0) (.slice none 0 0) (.slice none 0 0), .int .i64 (j : Int), .int .i64 c]) (by simp [results, Tryz.results8, go_sem, zS, r0, r1, r2, r3, r4, r5, r6, r7]) rfl ⟨rfl, HB.out⟩
  | ok s n =>
    obtain ⟨va, vb, ve, rfl, hS, hb⟩ := hP
    obtain ⟨Aa, ca, rfl⟩ := hS.a.slice
    obtain ⟨Ab, cb, rfl⟩ := hS.b.slice
    obtain ⟨Ae, ce, rfl⟩ := hS.e.slice
    rw [S3.sz1] at hS
    have hq1 := ((Q.out).bel hb).lt
    obtain ⟨z0, z1, z2, z3, z4, z5, z6, z7, r0, r1, r2, r3, r4, r5, r6, r7, y0, y1, y2, y3, y4, y5, y6, y7⟩ := ((Q.out).bel hb).facts
    have HB := Lib.hid (pfin s hb hS (.int .i64 s.kind) (.int .i64 s.no) (.string (S3.B s.name)) (.int .i64 s.typ) (.string (S3.B s.callee)) (.slice Aa s.args.length ca) (.slice Ab s.body.length cb) (.slice Ae s.els.length ce))
    clear hb hS
    go_wp2_with fail
    exact bodyPost_ret (v := .tuple #[(S3.sV s (.slice Aa s.args.length ca) (.slice Ab s.body.length cb) (.slice Ae s.els.length ce)), .int .i64 (n : Int), .int .i64 0]) (by simp [results, Tryz.results8, go_sem, r0, r1, r2, r3, r4, r5, r6, r7]) rfl ⟨_, _, _, rfl, HB.out.1, HB.out.2⟩
set_option maxRecDepth 100000 in
set_option maxHeartbeats 4000000 in
theorem sblock_range {w : World} {n c : Nat} {A : Option Addr} (i d : Int) (h : i < 0 ∨ (n : Int) < i ∨ d < 1) :
    Calls Tryz.prog 11 #[.slice A n c, .int .i64 i, .int .i64 d] w fun E w' => E = .returned (.tuple #[.slice none 0 0, .int .i64 0, .int .i64 3]) ∧ Below w.heap.size w w' := by
  go_enter Tryz.func11, Tryz.ntmps11
  go_wp2_with fail
  refine (readB_range i d h).mono ?_
  rintro E w1 ⟨rfl, hb⟩
  have HB := Lib.hid hb
  clear hb h
  go_wp2_with fail
  go_ret3
  exact ⟨rfl, HB.out⟩
set_option maxRecDepth 100000 in
set_option maxHeartbeats 4000000 in
theorem sblock_calls {w : World} {l : TL} {v : Value} {i d : Nat} (hT : TokL w w.heap.size v l) (hG : GlobE w) (hi : i ≤ l.length) (hW : GlobW w) (hll : l.length ≤ 1000000) (hd : 1 ≤ d) :
    Calls Tryz.prog 11 #[v, .int .i64 (i : Int), .int .i64 (d : Int)] w (PostPB w (blR l i (depS d))) := by
  have C := Lib.hid (readB_calls hT hG hi hW hll hd)
  clear hT hG hW
  generalize blR l i (depS d) = r at *
  go_enter Tryz.func11, Tryz.ntmps11
  go_wp2_with fail
  refine C.out.mono ?_
  intro E w1 hP
  cases r with
  | bad j c =>
    obtain ⟨rfl, hb⟩ := hP
    have HB := Lib.hid hb
    clear hb
    go_wp2_with fail
    go_ret3
    exact ⟨rfl, HB.out⟩
  | ok ss n =>
    obtain ⟨A, c, rfl, hE, hb⟩ := hP
    have HB := Lib.hid hb
    have HE := Lib.hid hE
    clear hb hE
    go_wp2_with fail
    go_ret3
    exact ⟨A, c, rfl, HE.out, HB.out⟩
end Go.Proofs.YtipepljmfgjbpaaGreatDoor.E6
