/-
  cursor.Read, expr.read, Parse, List: contracts. Written by gen6_read2.py.
-/
import Derived.Test.YtipepljmfgjbpaaGreatDoorERead
namespace Go.Proofs.YtipepljmfgjbpaaGreatDoor.E5
open Go Go.RowKit Go.Proofs.YtipepljmfgjbpaaGreatDoor

/-! ### cursor.Read -/
abbrev w3 (w : World) : World := ((w.alloc (.cells #[.int .i64 0, .int .i64 0, .int .i64 0, .string ⟨#[]⟩, .slice none 0 0] 67)).alloc (.cells #[.int .i64 0] 3)).alloc (.cells #[.int .i64 0] 34)
abbrev w4 (w : World) (v : Value) (i : Nat) : World := (w3 w).alloc (cuO v i)
theorem w3_below (w : World) : Below w.heap.size w (w3 w) := ((S3.bal w _).alloc (by simp) _).alloc (by simp; omega) _
theorem w3_size (w : World) : (w3 w).heap.size = w.heap.size + 1 + 1 + 1 := by simp
theorem w3_rows (w : World) : (w3 w).heap[w.heap.size]? = some (.cells #[.int .i64 0, .int .i64 0, .int .i64 0, .string ⟨#[]⟩, .slice none 0 0] 67 (0, 0)) ∧ (w3 w).heap[w.heap.size + 1]? = some (.cells #[.int .i64 0] 3 (0, 0)) ∧ (w3 w).heap[w.heap.size + 1 + 1]? = some (.cells #[.int .i64 0] 34 (0, 0)) := by
  refine ⟨?_, ?_, ?_⟩
  · rw [Below.heap_alloc _ _ _ (by simp; omega), Below.heap_alloc _ _ _ (by simp)]; exact heap_alloc_new w _
  · rw [Below.heap_alloc _ _ _ (by simp)]
    have := heap_alloc_new (w.alloc (.cells #[.int .i64 0, .int .i64 0, .int .i64 0, .string ⟨#[]⟩, .slice none 0 0] 67)) (.cells #[.int .i64 0] 3)
    rwa [S3.sz1] at this
  · have := heap_alloc_new ((w.alloc (.cells #[.int .i64 0, .int .i64 0, .int .i64 0, .string ⟨#[]⟩, .slice none 0 0] 67)).alloc (.cells #[.int .i64 0] 3)) (.cells #[.int .i64 0] 34)
    rwa [S3.sz1, S3.sz1] at this
theorem w4_rows (w : World) (v : Value) (i : Nat) : (w4 w v i).heap[w.heap.size]? = some (.cells #[.int .i64 0, .int .i64 0, .int .i64 0, .string ⟨#[]⟩, .slice none 0 0] 67 (0, 0)) ∧ (w4 w v i).heap[w.heap.size + 1]? = some (.cells #[.int .i64 0] 3 (0, 0)) ∧ (w4 w v i).heap[w.heap.size + 1 + 1]? = some (.cells #[.int .i64 0] 34 (0, 0)) := by
  obtain ⟨h1, h2, h3⟩ := w3_rows w
  exact ⟨(Below.heap_alloc _ _ _ (by rw [w3_size]; omega)).trans h1, (Below.heap_alloc _ _ _ (by rw [w3_size]; omega)).trans h2, (Below.heap_alloc _ _ _ (by rw [w3_size]; omega)).trans h3⟩
theorem w4_size (w : World) (v : Value) (i : Nat) : (w4 w v i).heap.size = w.heap.size + 1 + 1 + 1 + 1 := by simp
theorem w4_below (w : World) (v : Value) (i : Nat) : Below w.heap.size w (w4 w v i) := (w3_below w).alloc (by rw [w3_size]; omega) _
/-- What stores the result twice, and the two others. -/
def rw5 (w : World) (q p r : Nat) (a0 a1 a2 a3 a4 x y : Value) : World := ((put5 (put5 w q a0 a1 a2 a3 a4) q a0 a1 a2 a3 a4).setCell ⟨p, 0, none⟩ x).setCell ⟨r, 0, none⟩ y
theorem rw5_row {w : World} {q p r : Nat} (h : R5 w q) (hp : q ≠ p) (hr : q ≠ r) (a0 a1 a2 a3 a4 x y : Value) : (rw5 w q p r a0 a1 a2 a3 a4 x y).heap[q]? = some (.cells #[a0, a1, a2, a3, a4] 67 (0, 0)) := by
  unfold rw5
  rw [Below.heap_setCell _ _ _ _ hr, Below.heap_setCell _ _ _ _ hp]
  exact put5_row ⟨_, _, _, _, _, put5_row h a0 a1 a2 a3 a4⟩ a0 a1 a2 a3 a4
theorem rw5_heap (w : World) (q p r : Nat) (a0 a1 a2 a3 a4 x y : Value) (k : Nat) (hq : k ≠ q) (hp : k ≠ p) (hr : k ≠ r) : (rw5 w q p r a0 a1 a2 a3 a4 x y).heap[k]? = w.heap[k]? := by
  unfold rw5
  rw [Below.heap_setCell _ _ _ _ hr, Below.heap_setCell _ _ _ _ hp, put5_heap _ _ _ _ _ _ _ _ hq, put5_heap _ _ _ _ _ _ _ _ hq]
theorem rw5_size (w : World) (q p r : Nat) (a0 a1 a2 a3 a4 x y : Value) : (rw5 w q p r a0 a1 a2 a3 a4 x y).heap.size = w.heap.size := by simp [rw5, World.setCell]
theorem rw5_below {w w1 : World} (hb : Below w.heap.size w w1) {q p r : Nat} (hq : w.heap.size ≤ q) (hp : w.heap.size ≤ p) (hr : w.heap.size ≤ r) (a0 a1 a2 a3 a4 x y : Value) : Below w.heap.size w (rw5 w1 q p r a0 a1 a2 a3 a4 x y) := by
  unfold rw5
  exact ((put5_below (put5_below hb hq a0 a1 a2 a3 a4) hq a0 a1 a2 a3 a4).setCell (p := ⟨p, 0, none⟩) hp _).setCell (p := ⟨r, 0, none⟩) hr _
theorem read_fin0 {w w5 W w7 : World} {q p r n0 : Nat} {a0 a1 a2 a3 a4 x y : Value} {l : List Ex} {v : Value} (hq : q < w5.heap.size) (hp : p < w5.heap.size) (hr : r < w5.heap.size) (hn : q < n0 ∧ p < n0 ∧ r < n0)
    (h1 : W.heap[q]? = some (.cells #[a0, a1, a2, a3, a4] 67 (0, 0))) (h2 : W.cell? ⟨p, 0, none⟩ = some x) (h3 : W.cell? ⟨r, 0, none⟩ = some y) (hz : W.heap.size = w5.heap.size) (hh : ∀ k, k ≠ q → k ≠ p → k ≠ r → W.heap[k]? = w5.heap[k]?) (hb : Below w.heap.size w W)
    (hE : S3.ER w5 (Rn n0 w5.heap.size) l v) (h7 : Below W.drew.heap.size W.drew w7) :
    (w7.cell? ⟨q, 0, none⟩ = some a0 ∧ w7.cell? ⟨q, 1, none⟩ = some a1 ∧ w7.cell? ⟨q, 2, none⟩ = some a2 ∧ w7.cell? ⟨q, 3, none⟩ = some a3 ∧ w7.cell? ⟨q, 4, none⟩ = some a4) ∧ w7.cell? ⟨p, 0, none⟩ = some x ∧ w7.cell? ⟨r, 0, none⟩ = some y ∧ S3.ER w7 (Rn n0 w7.heap.size) l v ∧ Below w.heap.size w w7 := by
  have h7 : Below W.heap.size W w7 := ⟨h7.os, h7.tape, h7.output, h7.size, h7.block⟩
  have hz7 := h7.size
  refine ⟨row5_facts ((h7.block q (by omega)).trans h1), (h7.cell (p := ⟨p, 0, none⟩) (by show p < _; omega)).trans h2, (h7.cell (p := ⟨r, 0, none⟩) (by show r < _; omega)).trans h3, ?_, hb.trans (h7.mono hb.size)⟩
  exact hE.keep (fun k hk => ⟨hk.1, by have := hk.2; omega⟩) (fun k _ hk => World.cell?_of_block (w := w5) ((h7.block k (by have := hk.2; omega)).trans (hh k (by have := hk.1; omega) (by have := hk.1; omega) (by have := hk.1; omega))))
theorem read_fin {w w5 w7 : World} {n0 : Nat} {l : List Ex} {v : Value} {b0 d0 : Value} (q p r : Nat) (a0 a1 a2 a3 a4 x y : Value) (HQ : R5 w5 q) (hpc : w5.cell? ⟨p, 0, none⟩ = some b0) (hrc : w5.cell? ⟨r, 0, none⟩ = some d0) (hp : p < w5.heap.size) (hr : r < w5.heap.size) (hn : q < n0 ∧ p < n0 ∧ r < n0) (hqp : q ≠ p) (hqr : q ≠ r) (hpr : p ≠ r)
    (hwq : w.heap.size ≤ q) (hwp : w.heap.size ≤ p) (hwr : w.heap.size ≤ r) (HB : Below w.heap.size w w5) (hE : S3.ER w5 (Rn n0 w5.heap.size) l v) (h7 : Below (rw5 w5 q p r a0 a1 a2 a3 a4 x y).drew.heap.size (rw5 w5 q p r a0 a1 a2 a3 a4 x y).drew w7) :
    (w7.cell? ⟨q, 0, none⟩ = some a0 ∧ w7.cell? ⟨q, 1, none⟩ = some a1 ∧ w7.cell? ⟨q, 2, none⟩ = some a2 ∧ w7.cell? ⟨q, 3, none⟩ = some a3 ∧ w7.cell? ⟨q, 4, none⟩ = some a4) ∧ w7.cell? ⟨p, 0, none⟩ = some x ∧ w7.cell? ⟨r, 0, none⟩ = some y ∧ S3.ER w7 (Rn n0 w7.heap.size) l v ∧ Below w.heap.size w w7 := by
  have hlt := HQ.lt
  have hp1 := put5_heap (put5 w5 q a0 a1 a2 a3 a4) q a0 a1 a2 a3 a4
  have hp2 := put5_heap w5 q a0 a1 a2 a3 a4
  have h2 : (rw5 w5 q p r a0 a1 a2 a3 a4 x y).cell? ⟨p, 0, none⟩ = some x := by
    unfold rw5
    generalize put5 (put5 w5 q a0 a1 a2 a3 a4) q a0 a1 a2 a3 a4 = W at *
    have e : W.cell? ⟨p, 0, none⟩ = w5.cell? ⟨p, 0, none⟩ := World.cell?_of_block (w := w5) ((hp1 p (Ne.symm hqp)).trans (hp2 p (Ne.symm hqp)))
    have e2 : ((W.setCell ⟨p, 0, none⟩ x).setCell ⟨r, 0, none⟩ y).cell? ⟨p, 0, none⟩ = (W.setCell ⟨p, 0, none⟩ x).cell? ⟨p, 0, none⟩ := World.cell?_of_block (w := W.setCell ⟨p, 0, none⟩ x) (Below.heap_setCell (W.setCell ⟨p, 0, none⟩ x) ⟨r, 0, none⟩ y p hpr)
    exact e2.trans (World.cell?_setCell_same _ _ _ (e.trans hpc))
  have h3 : (rw5 w5 q p r a0 a1 a2 a3 a4 x y).cell? ⟨r, 0, none⟩ = some y := by
    unfold rw5
    generalize put5 (put5 w5 q a0 a1 a2 a3 a4) q a0 a1 a2 a3 a4 = W at *
    have e : (W.setCell ⟨p, 0, none⟩ x).cell? ⟨r, 0, none⟩ = w5.cell? ⟨r, 0, none⟩ := World.cell?_of_block (w := w5) ((Below.heap_setCell W ⟨p, 0, none⟩ x r (Ne.symm hpr)).trans ((hp1 r (Ne.symm hqr)).trans (hp2 r (Ne.symm hqr))))
    exact World.cell?_setCell_same _ _ _ (e.trans hrc)
  have h1 := rw5_row HQ hqp hqr a0 a1 a2 a3 a4 x y
  have h4 := rw5_size w5 q p r a0 a1 a2 a3 a4 x y
  have h5 := rw5_heap w5 q p r a0 a1 a2 a3 a4 x y
  have h6 := rw5_below HB hwq hwp hwr a0 a1 a2 a3 a4 x y
  clear hp1 hp2
  generalize rw5 w5 q p r a0 a1 a2 a3 a4 x y = W at *
  exact read_fin0 hlt hp hr hn h1 h2 h3 h4 h5 h6 hE h7
def PostPL (w : World) : ResL → Ending → World → Prop
  | .ok es n => fun E w' => ∃ A c, E = .returned (.tuple #[.slice A es.length c, .int .i64 (n : Int), .int .i64 0]) ∧ S3.ER w' (Rn w.heap.size w'.heap.size) es (.slice A es.length c) ∧ Below w.heap.size w w'
  | .bad a c => fun E w' => E = .returned (.tuple #[.slice none 0 0, .int .i64 (a : Int), .int .i64 c]) ∧ Below w.heap.size w w'
abbrev x2 (w : World) : World := (w.alloc (.cells #[.int .i64 0] 3)).alloc (.cells #[.int .i64 0] 34)
abbrev x3 (w : World) (v : Value) (i : Nat) : World := (x2 w).alloc (cuO v i)
theorem x2_below (w : World) : Below w.heap.size w (x2 w) := (S3.bal w _).alloc (by simp) _
theorem x2_size (w : World) : (x2 w).heap.size = w.heap.size + 1 + 1 := by simp
theorem x3_size (w : World) (v : Value) (i : Nat) : (x3 w v i).heap.size = w.heap.size + 1 + 1 + 1 := by simp
theorem x3_below (w : World) (v : Value) (i : Nat) : Below w.heap.size w (x3 w v i) := (x2_below w).alloc (by rw [x2_size]; omega) _
theorem x3_rows (w : World) (v : Value) (i : Nat) : (x3 w v i).heap[w.heap.size]? = some (.cells #[.int .i64 0] 3 (0, 0)) ∧ (x3 w v i).heap[w.heap.size + 1]? = some (.cells #[.int .i64 0] 34 (0, 0)) := by
  refine ⟨?_, ?_⟩
  · rw [Below.heap_alloc _ _ _ (by simp; omega), Below.heap_alloc _ _ _ (by simp)]; exact heap_alloc_new w _
  · rw [Below.heap_alloc _ _ _ (by simp)]
    have := heap_alloc_new (w.alloc (.cells #[.int .i64 0] 3)) (.cells #[.int .i64 0] 34)
    rwa [S3.sz1] at this
theorem rl_fin0 {w w5 W w7 : World} {p r n0 : Nat} {x y : Value} {l : List Ex} {v : Value} (hp : p < w5.heap.size) (hr : r < w5.heap.size) (hn : p < n0 ∧ r < n0)
    (h2 : W.cell? ⟨p, 0, none⟩ = some x) (h3 : W.cell? ⟨r, 0, none⟩ = some y) (hz : W.heap.size = w5.heap.size) (hh : ∀ k, k ≠ p → k ≠ r → W.heap[k]? = w5.heap[k]?) (hb : Below w.heap.size w W)
    (hE : S3.ER w5 (Rn n0 w5.heap.size) l v) (h7 : Below W.drew.heap.size W.drew w7) :
    w7.cell? ⟨p, 0, none⟩ = some x ∧ w7.cell? ⟨r, 0, none⟩ = some y ∧ S3.ER w7 (Rn n0 w7.heap.size) l v ∧ Below w.heap.size w w7 := by
  have h7 : Below W.heap.size W w7 := ⟨h7.os, h7.tape, h7.output, h7.size, h7.block⟩
  have hz7 := h7.size
  refine ⟨(h7.cell (p := ⟨p, 0, none⟩) (by show p < _; omega)).trans h2, (h7.cell (p := ⟨r, 0, none⟩) (by show r < _; omega)).trans h3, ?_, hb.trans (h7.mono hb.size)⟩
  exact hE.keep (fun k hk => ⟨hk.1, by have := hk.2; omega⟩) (fun k _ hk => World.cell?_of_block (w := w5) ((h7.block k (by have := hk.2; omega)).trans (hh k (by have := hk.1; omega) (by have := hk.1; omega))))
theorem rl_fin {w w5 w7 : World} {n0 : Nat} {l : List Ex} {v : Value} {b0 d0 : Value} (p r : Nat) (x y : Value) (hpc : w5.cell? ⟨p, 0, none⟩ = some b0) (hrc : w5.cell? ⟨r, 0, none⟩ = some d0) (hp : p < w5.heap.size) (hr : r < w5.heap.size) (hn : p < n0 ∧ r < n0) (hpr : p ≠ r)
    (hwp : w.heap.size ≤ p) (hwr : w.heap.size ≤ r) (HB : Below w.heap.size w w5) (hE : S3.ER w5 (Rn n0 w5.heap.size) l v) (h7 : Below ((w5.setCell ⟨p, 0, none⟩ x).setCell ⟨r, 0, none⟩ y).drew.heap.size ((w5.setCell ⟨p, 0, none⟩ x).setCell ⟨r, 0, none⟩ y).drew w7) :
    w7.cell? ⟨p, 0, none⟩ = some x ∧ w7.cell? ⟨r, 0, none⟩ = some y ∧ S3.ER w7 (Rn n0 w7.heap.size) l v ∧ Below w.heap.size w w7 := by
  have e1 : (w5.setCell ⟨p, 0, none⟩ x).cell? ⟨p, 0, none⟩ = some x := World.cell?_setCell_same _ _ _ hpc
  have e2 : ((w5.setCell ⟨p, 0, none⟩ x).setCell ⟨r, 0, none⟩ y).cell? ⟨p, 0, none⟩ = (w5.setCell ⟨p, 0, none⟩ x).cell? ⟨p, 0, none⟩ := World.cell?_of_block (w := w5.setCell ⟨p, 0, none⟩ x) (Below.heap_setCell (w5.setCell ⟨p, 0, none⟩ x) ⟨r, 0, none⟩ y p hpr)
  have e3 : (w5.setCell ⟨p, 0, none⟩ x).cell? ⟨r, 0, none⟩ = w5.cell? ⟨r, 0, none⟩ := World.cell?_of_block (w := w5) (Below.heap_setCell w5 ⟨p, 0, none⟩ x r (Ne.symm hpr))
  have e4 : ((w5.setCell ⟨p, 0, none⟩ x).setCell ⟨r, 0, none⟩ y).cell? ⟨r, 0, none⟩ = some y := World.cell?_setCell_same _ _ _ (e3.trans hrc)
  have e5 : ((w5.setCell ⟨p, 0, none⟩ x).setCell ⟨r, 0, none⟩ y).heap.size = w5.heap.size := by simp [World.setCell]
  have e6 : ∀ k, k ≠ p → k ≠ r → ((w5.setCell ⟨p, 0, none⟩ x).setCell ⟨r, 0, none⟩ y).heap[k]? = w5.heap[k]? := fun k h1 h2 => (Below.heap_setCell _ ⟨r, 0, none⟩ y k h2).trans (Below.heap_setCell w5 ⟨p, 0, none⟩ x k h1)
  have e7 : Below w.heap.size w ((w5.setCell ⟨p, 0, none⟩ x).setCell ⟨r, 0, none⟩ y) := (HB.setCell (p := ⟨p, 0, none⟩) hwp _).setCell (p := ⟨r, 0, none⟩) hwr _
  have e8 := e2.trans e1
  clear e1 e2 e3
  generalize (w5.setCell ⟨p, 0, none⟩ x).setCell ⟨r, 0, none⟩ y = W at *
  exact rl_fin0 hp hr hn e8 e4 e5 e6 e7 hE h7
set_option maxRecDepth 100000 in
set_option maxHeartbeats 4000000 in
theorem creadE_bad {w : World} {l : TL} {v : Value} {i : Nat} (hT : TokL w w.heap.size v l) (hG : GlobE w) (hi : i ≤ l.length) (p q : Nat) (j : Nat) (c : Int)
    (C : ∀ W c', Cu W l v c' i → Below w.heap.size w W → Calls Tryz.prog 79 #[cpt c', rq p, rq q] W (PostC W l v c' (.bad j c))) :
    Calls Tryz.prog 78 #[v, .int .i64 (i : Int), .func (.func 79) #[] #[rq p, rq q]] w (PostP w (.bad j c)) := by
  have hmf : ∀ (fn : Fn) (first cap : Array Value) (w : World), (Instr.makeFunc fn first cap).run Tryz.prog w = .ok (.func fn first cap) w := fun _ _ _ _ => rfl
  have hz4 := w4_size w v i
  have C := C (w4 w v i) _ (cu_new hT hG hi (w3_below w)) (w4_below w v i)
  simp only [cpt, w3_size] at C
  have C := Lib.hid C
  obtain ⟨A, k, rfl, hle, _⟩ := hT
  have q1 : ¬ (i : Int) < 0 := by omega
  have q2 : ¬ (l.length : Int) < (i : Int) := by omega
  clear hG
  go_enter_defers Tryz.func78, Tryz.ntmps78
  go_wp2_with fail
  refine C.out.mono ?_
  rintro E w5 ⟨rfl, hf⟩
  obtain ⟨g1, g2, g3⟩ := w4_rows w (.slice A l.length k) i
  have g1 := (hf.block _ (by rw [hz4]; omega) (by omega)).trans g1
  have g2 := (hf.block _ (by rw [hz4]; omega) (by omega)).trans g2
  have g3 := (hf.block _ (by rw [hz4]; omega) (by omega)).trans g3
  have hbel := (w4_below w (.slice A l.length k) i).trans (hf.below (M := w.heap.size) (by omega) (by rw [hz4]; omega))
  have hz5 := hf.size
  rw [hz4] at hz5
  clear hf C
  go_wp2_with fail
  refine leaves_cons (f := 82) (args := #[rq (w.heap.size + 1), rq (w.heap.size + 1 + 1)]) (by simp) (by simp [go_sem]) ?_
  refine (catchE_panicking (w.heap.size + 1) (w.heap.size + 1 + 1) 0 0 j c [] w5 (one_facts g2).1 (one_facts g3).1 (one_facts g2).2 (one_facts g3).2 (by omega) (by omega) (by omega)).mono ?_
  rintro e u' w6 ⟨rfl, rfl, hfr, hp, hq⟩
  obtain ⟨r0, r1, r2, r3, r4⟩ := row5_facts ((hfr.block _ (by omega) (by omega) (by omega)).trans g1)
  have hb6 := hbel.trans (hfr.below (M := w.heap.size) (by omega) (by omega) (by omega))
  exact ⟨.tuple #[S3.eV zE (.slice none 0 0), .int .i64 (j : Int), .int .i64 c], by simp [results, Tryz.results78, go_sem, r0, r1, r2, r3, r4, hp, hq, zE], rfl, hb6⟩
set_option maxRecDepth 100000 in
set_option maxHeartbeats 4000000 in
theorem creadE_ok {w : World} {l : TL} {v : Value} {i : Nat} (hT : TokL w w.heap.size v l) (hG : GlobE w) (hi : i ≤ l.length) (p q : Nat) (e : Ex) (n : Nat)
    (C : ∀ W c', Cu W l v c' i → Below w.heap.size w W → Calls Tryz.prog 79 #[cpt c', rq p, rq q] W (PostC W l v c' (.ok e n))) :
    Calls Tryz.prog 78 #[v, .int .i64 (i : Int), .func (.func 79) #[] #[rq p, rq q]] w (PostP w (.ok e n)) := by
  have hmf : ∀ (fn : Fn) (first cap : Array Value) (w : World), (Instr.makeFunc fn first cap).run Tryz.prog w = .ok (.func fn first cap) w := fun _ _ _ _ => rfl
  have hz4 := w4_size w v i
  have C := C (w4 w v i) _ (cu_new hT hG hi (w3_below w)) (w4_below w v i)
  simp only [cpt, w3_size] at C
  have C := Lib.hid C
  obtain ⟨A, k, rfl, hle, _⟩ := hT
  have q1 : ¬ (i : Int) < 0 := by omega
  have q2 : ¬ (l.length : Int) < (i : Int) := by omega
  clear hG
  go_enter_defers Tryz.func78, Tryz.ntmps78
  go_wp2_with fail
  refine C.out.mono ?_
  rintro E w5 ⟨A1, k1, c1, rfl, ho, hE, hr, hf⟩
  obtain ⟨g1, g2, g3⟩ := w4_rows w (.slice A l.length k) i
  have g1 := (hf.block _ (by rw [hz4]; omega) (by omega)).trans g1
  have g2 := (hf.block _ (by rw [hz4]; omega) (by omega)).trans g2
  have g3 := (hf.block _ (by rw [hz4]; omega) (by omega)).trans g3
  have hbel := (w4_below w (.slice A l.length k) i).trans (hf.below (M := w.heap.size) (by omega) (by rw [hz4]; omega))
  have hz5 := hf.size
  rw [hz4] at hz5 hE
  obtain ⟨z0, z1, z2, z3, z4, r0, r1, r2, r3, r4, y0, y1, y2, y3, y4⟩ := (show R5 w5 w.heap.size from ⟨_, _, _, _, _, g1⟩).facts
  obtain ⟨b0, b1⟩ := one_facts g2
  obtain ⟨d0, d1⟩ := one_facts g3
  obtain ⟨c0, c1', f1⟩ := hr.cells
  have HE := Lib.hid hE
  have HO := Lib.hid ho
  have HB := Lib.hid hbel
  have hlt5 := hr.lt
  have HQ0 := Lib.hid (show R5 w5 w.heap.size from ⟨_, _, _, _, _, g1⟩)
  clear hf C g1 g2 g3 hE ho hr hbel
  go_wp2_with fail
  go_region
  go_wp2_with fail
  refine leaves_cons (f := 82) (args := #[rq (w.heap.size + 1), rq (w.heap.size + 1 + 1)]) (by simp) (by simp [go_sem]) ?_
  refine (catchE_idle (w.heap.size + 1) (w.heap.size + 1 + 1) _).mono ?_
  rintro e' u' w7 ⟨rfl, rfl, hb7⟩
  obtain ⟨⟨s0, s1, s2, s3, s4⟩, k5, k6, hE7, hb⟩ := read_fin w.heap.size (w.heap.size + 1) (w.heap.size + 1 + 1) (.int .i64 e.kind) (.int .i64 e.op) (.int .i64 e.num) (.string (S3.B e.name)) (.slice A1 k1 c1) (.int .i64 (n : Int)) (.int .i64 0) HQ0.out b0 d0 (by omega) (by omega) ⟨by omega, by omega, by omega⟩ (by omega) (by omega) (by omega) (by omega) (by omega) (by omega) HB.out HE.out hb7
  exact ⟨.tuple #[S3.eV e (.slice A1 k1 c1), .int .i64 (n : Int), .int .i64 0], by simp [results, Tryz.results78, go_sem, s0, s1, s2, s3, s4, k5, k6], A1, k1, c1, rfl, HO.out, er_mono hE7 (by omega) (Nat.le_refl _), hb⟩
set_option maxRecDepth 100000 in
set_option maxHeartbeats 4000000 in
theorem creadL_bad {w : World} {l : TL} {v : Value} {i : Nat} (hT : TokL w w.heap.size v l) (hG : GlobE w) (hi : i ≤ l.length) (p q : Nat) (j : Nat) (c : Int)
    (C : ∀ W c', Cu W l v c' i → Below w.heap.size w W → Calls Tryz.prog 76 #[cpt c', rq p, rq q] W (PostCL W l v c' (.bad j c))) :
    Calls Tryz.prog 75 #[v, .int .i64 (i : Int), .func (.func 76) #[] #[rq p, rq q]] w (PostPL w (.bad j c)) := by
  have hmf : ∀ (fn : Fn) (first cap : Array Value) (w : World), (Instr.makeFunc fn first cap).run Tryz.prog w = .ok (.func fn first cap) w := fun _ _ _ _ => rfl
  have hz4 := x3_size w v i
  have C := C (x3 w v i) _ (cu_new hT hG hi (x2_below w)) (x3_below w v i)
  simp only [cpt, x2_size] at C
  have C := Lib.hid C
  obtain ⟨A, k, rfl, hle, _⟩ := hT
  have q1 : ¬ (i : Int) < 0 := by omega
  have q2 : ¬ (l.length : Int) < (i : Int) := by omega
  clear hG
  go_enter_defers Tryz.func75, Tryz.ntmps75
  go_wp2_with fail
  refine C.out.mono ?_
  rintro E w5 ⟨rfl, hf⟩
  obtain ⟨g2, g3⟩ := x3_rows w (.slice A l.length k) i
  have g2 := (hf.block _ (by rw [hz4]; omega) (by omega)).trans g2
  have g3 := (hf.block _ (by rw [hz4]; omega) (by omega)).trans g3
  have hbel := (x3_below w (.slice A l.length k) i).trans (hf.below (M := w.heap.size) (by omega) (by rw [hz4]; omega))
  have hz5 := hf.size
  rw [hz4] at hz5
  clear hf C
  go_wp2_with fail
  refine leaves_cons (f := 81) (args := #[rq w.heap.size, rq (w.heap.size + 1)]) (by simp) (by simp [go_sem]) ?_
  refine (catchL_panicking w.heap.size (w.heap.size + 1) 0 0 j c [] w5 (one_facts g2).1 (one_facts g3).1 (one_facts g2).2 (one_facts g3).2 (by omega) (by omega) (by omega)).mono ?_
  rintro e u' w6 ⟨rfl, rfl, hfr, hp, hq⟩
  have hb6 := hbel.trans (hfr.below (M := w.heap.size) (by omega) (by omega) (by omega))
  exact ⟨.tuple #[.slice none 0 0, .int .i64 (j : Int), .int .i64 c], by simp [results, Tryz.results75, go_sem, hp, hq], rfl, hb6⟩
set_option maxRecDepth 100000 in
set_option maxHeartbeats 4000000 in
theorem creadL_ok {w : World} {l : TL} {v : Value} {i : Nat} (hT : TokL w w.heap.size v l) (hG : GlobE w) (hi : i ≤ l.length) (p q : Nat) (es : List Ex) (n : Nat)
    (C : ∀ W c', Cu W l v c' i → Below w.heap.size w W → Calls Tryz.prog 76 #[cpt c', rq p, rq q] W (PostCL W l v c' (.ok es n))) :
    Calls Tryz.prog 75 #[v, .int .i64 (i : Int), .func (.func 76) #[] #[rq p, rq q]] w (PostPL w (.ok es n)) := by
  have hmf : ∀ (fn : Fn) (first cap : Array Value) (w : World), (Instr.makeFunc fn first cap).run Tryz.prog w = .ok (.func fn first cap) w := fun _ _ _ _ => rfl
  have hz4 := x3_size w v i
  have C := C (x3 w v i) _ (cu_new hT hG hi (x2_below w)) (x3_below w v i)
  simp only [cpt, x2_size] at C
  have C := Lib.hid C
  obtain ⟨A, k, rfl, hle, _⟩ := hT
  have q1 : ¬ (i : Int) < 0 := by omega
  have q2 : ¬ (l.length : Int) < (i : Int) := by omega
  clear hG
  go_enter_defers Tryz.func75, Tryz.ntmps75
  go_wp2_with fail
  refine C.out.mono ?_
  rintro E w5 ⟨A1, c1, rfl, hE, hr, hf⟩
  obtain ⟨g2, g3⟩ := x3_rows w (.slice A l.length k) i
  have g2 := (hf.block _ (by rw [hz4]; omega) (by omega)).trans g2
  have g3 := (hf.block _ (by rw [hz4]; omega) (by omega)).trans g3
  have hbel := (x3_below w (.slice A l.length k) i).trans (hf.below (M := w.heap.size) (by omega) (by rw [hz4]; omega))
  have hz5 := hf.size
  rw [hz4] at hz5 hE
  obtain ⟨b0, b1⟩ := one_facts g2
  obtain ⟨d0, d1⟩ := one_facts g3
  obtain ⟨c0, c1', f1⟩ := hr.cells
  have HE := Lib.hid hE
  have HB := Lib.hid hbel
  have hlt5 := hr.lt
  clear hf C g2 g3 hE hr hbel
  go_wp2_with fail
  go_region
  go_wp2_with fail
  refine leaves_cons (f := 81) (args := #[rq w.heap.size, rq (w.heap.size + 1)]) (by simp) (by simp [go_sem]) ?_
  refine (catchL_idle w.heap.size (w.heap.size + 1) _).mono ?_
  rintro e' u' w7 ⟨rfl, rfl, hb7⟩
  obtain ⟨k5, k6, hE7, hb⟩ := rl_fin w.heap.size (w.heap.size + 1) (.int .i64 (n : Int)) (.int .i64 0) b0 d0 (by omega) (by omega) ⟨by omega, by omega⟩ (by omega) (by omega) (by omega) HB.out HE.out hb7
  exact ⟨.tuple #[.slice A1 es.length c1, .int .i64 (n : Int), .int .i64 0], by simp [results, Tryz.results75, go_sem, k5, k6], A1, c1, rfl, er_mono hE7 (by omega) (Nat.le_refl _), hb⟩
abbrev yE (w : World) (d : Nat) : World := ((w.alloc (.cells #[.int .i64 (d : Int)] 3)).alloc (.cells #[.func (.func 74) #[] #[]] 110)).alloc (.cells #[.int .i64 0, .int .i64 0, .int .i64 0, .string ⟨#[]⟩, .slice none 0 0] 67)
theorem yE_size (w : World) (d : Nat) : (yE w d).heap.size = w.heap.size + 1 + 1 + 1 := by simp
theorem yE_below (w : World) (d : Nat) : Below w.heap.size w (yE w d) := ((S3.bal w _).alloc (by simp) _).alloc (by simp; omega) _
theorem yE_cells (w : World) (d : Nat) : (yE w d).cell? ⟨w.heap.size + 1, 0, none⟩ = some (.func (.func 74) #[] #[]) ∧ (yE w d).cell? ⟨w.heap.size, 0, none⟩ = some (.int .i64 (d : Int)) := by
  have h1 := S3.newCell w #[.int .i64 (d : Int)] 3 0 _ rfl
  have h2 := S3.newCell (w.alloc (.cells #[.int .i64 (d : Int)] 3)) #[.func (.func 74) #[] #[]] 110 0 _ rfl
  rw [S3.sz1] at h2
  refine ⟨(World.cell?_alloc_lt _ _ _ (by simp)).trans h2, (World.cell?_alloc_lt _ _ _ (by simp; omega)).trans ((World.cell?_alloc_lt _ _ _ (by simp)).trans h1)⟩
set_option maxRecDepth 100000 in
set_option maxHeartbeats 4000000 in
theorem readE_calls {w : World} {l : TL} {v : Value} {i d : Nat} (hT : TokL w w.heap.size v l) (hG : GlobE w) (hi : i ≤ l.length) (hd : d ≤ 9223372036854775807) :
    Calls Tryz.prog 73 #[v, .int .i64 (i : Int), .int .i64 (d : Int), .func (.func 74) #[] #[]] w (PostP w (binR l i d 1)) := by
  have hmf : ∀ (fn : Fn) (first cap : Array Value) (w : World), (Instr.makeFunc fn first cap).run Tryz.prog w = .ok (.func fn first cap) w := fun _ _ _ _ => rfl
  have hy := yE_below w d
  have hyz := yE_size w d
  obtain ⟨k1, k0⟩ := yE_cells w d
  have hlt : w.heap.size + 1 < (yE w d).heap.size := by rw [hyz]; omega
  have PT := fun (W : World) (c' : Nat) (hC : Cu W l v c' i) (hb : Below (yE w d).heap.size (yE w d) W) => partE (d := d) hC hd ((hb.cell (p := ⟨w.heap.size + 1, 0, none⟩) (by show w.heap.size + 1 < _; omega)).trans k1) ((hb.cell (p := ⟨w.heap.size, 0, none⟩) (by show w.heap.size < _; omega)).trans k0) (Nat.lt_of_lt_of_le hlt hb.size) (Nat.lt_of_lt_of_le (by omega) hb.size)
  have hT2 := (hT.bel hy).keep (M' := (yE w d).heap.size) (by omega) (fun _ _ _ => rfl)
  have hG2 := hG.up hy
  have q3 : ¬ (d : Int) < 0 := by omega
  cases hB : binR l i d 1 with
  | bad j c =>
    rw [hB] at PT
    have C := Lib.hid (creadE_bad hT2 hG2 hi _ _ j c PT)
    have HY := Lib.hid hy
    have QY := Lib.hid (show R5 (yE w d) (w.heap.size + 1 + 1) from ⟨_, _, _, _, _, by have := heap_alloc_new (((w.alloc (.cells #[.int .i64 (d : Int)] 3)).alloc (.cells #[.func (.func 74) #[] #[]] 110))) (.cells #[.int .i64 0, .int .i64 0, .int .i64 0, .string ⟨#[]⟩, .slice none 0 0] 67); rwa [S3.sz1, S3.sz1] at this⟩)
    clear hT hG hT2 hG2 PT hy hB hyz hlt
    go_enter Tryz.func73, Tryz.ntmps73
    go_wp2_with fail
    refine C.out.mono ?_
    rintro E w1 ⟨rfl, hb⟩
    have HB := Lib.hid (after HY.out hb)
    obtain ⟨z0, z1, z2, z3, z4, r0, r1, r2, r3, r4, y0, y1, y2, y3, y4⟩ := (QY.out.bel hb).facts
    have HF := Lib.hid (put5_below HB.out (q := w.heap.size + 1 + 1) (by omega) (.int .i64 0) (.int .i64 0) (.int .i64 0) (.string ⟨#[]⟩) (.slice none 0 0))
    have hq1 := (QY.out.bel hb).lt
    clear hb C
    go_wp2_with fail
    exact bodyPost_ret (v := .tuple #[S3.eV zE (.slice none 0 0), .int .i64 (j : Int), .int .i64 c]) (by simp [results, Tryz.results73, go_sem, zE, r0, r1, r2, r3, r4]) rfl ⟨rfl, HF.out⟩
  | ok e n =>
    rw [hB] at PT
    have C := Lib.hid (creadE_ok hT2 hG2 hi _ _ e n PT)
    have HY := Lib.hid hy
    have QY := Lib.hid (show R5 (yE w d) (w.heap.size + 1 + 1) from ⟨_, _, _, _, _, by have := heap_alloc_new (((w.alloc (.cells #[.int .i64 (d : Int)] 3)).alloc (.cells #[.func (.func 74) #[] #[]] 110))) (.cells #[.int .i64 0, .int .i64 0, .int .i64 0, .string ⟨#[]⟩, .slice none 0 0] 67); rwa [S3.sz1, S3.sz1] at this⟩)
    have hyz' := hyz
    clear hT hG hT2 hG2 PT hy hB hlt
    go_enter Tryz.func73, Tryz.ntmps73
    go_wp2_with fail
    refine C.out.mono ?_
    rintro E w1 ⟨A, k, c, rfl, ho, hE, hb⟩
    have HB := Lib.hid (after HY.out hb)
    rw [hyz'] at hE
    obtain ⟨z0, z1, z2, z3, z4, r0, r1, r2, r3, r4, y0, y1, y2, y3, y4⟩ := (QY.out.bel hb).facts
    have HF := Lib.hid (put5_below HB.out (q := w.heap.size + 1 + 1) (by omega) (.int .i64 e.kind) (.int .i64 e.op) (.int .i64 e.num) (.string (S3.B e.name)) (.slice A k c))
    have HE := Lib.hid (er_mono (put5_er hE (show w.heap.size + 1 + 1 < w.heap.size + 1 + 1 + 1 by omega) (.int .i64 e.kind) (.int .i64 e.op) (.int .i64 e.num) (.string (S3.B e.name)) (.slice A k c)) (show w.heap.size ≤ w.heap.size + 1 + 1 + 1 by omega) (Nat.le_refl _))
    have hq1 := (QY.out.bel hb).lt
    have HO := Lib.hid ho
    clear hb C hE ho hyz hyz'
    go_wp2_with fail
    exact bodyPost_ret (v := .tuple #[S3.eV e (.slice A k c), .int .i64 (n : Int), .int .i64 0]) (by simp [results, Tryz.results73, go_sem, r0, r1, r2, r3, r4]) rfl ⟨A, k, c, rfl, HO.out, HE.out, HF.out⟩
abbrev yL (w : World) (d : Nat) : World := (w.alloc (.cells #[.int .i64 (d : Int)] 3)).alloc (.cells #[.func (.func 72) #[] #[]] 105)
theorem yL_size (w : World) (d : Nat) : (yL w d).heap.size = w.heap.size + 1 + 1 := by simp
theorem yL_below (w : World) (d : Nat) : Below w.heap.size w (yL w d) := (S3.bal w _).alloc (by simp) _
theorem yL_cells (w : World) (d : Nat) : (yL w d).cell? ⟨w.heap.size + 1, 0, none⟩ = some (.func (.func 72) #[] #[]) ∧ (yL w d).cell? ⟨w.heap.size, 0, none⟩ = some (.int .i64 (d : Int)) := by
  have h1 := S3.newCell w #[.int .i64 (d : Int)] 3 0 _ rfl
  have h2 := S3.newCell (w.alloc (.cells #[.int .i64 (d : Int)] 3)) #[.func (.func 72) #[] #[]] 105 0 _ rfl
  rw [S3.sz1] at h2
  exact ⟨h2, (World.cell?_alloc_lt _ _ _ (by simp)).trans h1⟩
set_option maxRecDepth 100000 in
set_option maxHeartbeats 4000000 in
theorem readL_calls {w : World} {l : TL} {v : Value} {i d : Nat} (hT : TokL w w.heap.size v l) (hG : GlobE w) (hi : i ≤ l.length) (hd : d ≤ 9223372036854775807) (hll : l.length ≤ 1000000) :
    Calls Tryz.prog 71 #[v, .int .i64 (i : Int), .int .i64 (d : Int), .func (.func 72) #[] #[]] w (PostPL w (listR l i d)) := by
  have hmf : ∀ (fn : Fn) (first cap : Array Value) (w : World), (Instr.makeFunc fn first cap).run Tryz.prog w = .ok (.func fn first cap) w := fun _ _ _ _ => rfl
  have hy := yL_below w d
  have hyz := yL_size w d
  obtain ⟨k1, k0⟩ := yL_cells w d
  have hlt : w.heap.size + 1 < (yL w d).heap.size := by rw [hyz]; omega
  have PT := fun (W : World) (c' : Nat) (hC : Cu W l v c' i) (hb : Below (yL w d).heap.size (yL w d) W) => partL (d := d) hC hd hll ((hb.cell (p := ⟨w.heap.size + 1, 0, none⟩) (by show w.heap.size + 1 < _; omega)).trans k1) ((hb.cell (p := ⟨w.heap.size, 0, none⟩) (by show w.heap.size < _; omega)).trans k0)
  have hT2 := (hT.bel hy).keep (M' := (yL w d).heap.size) (by omega) (fun _ _ _ => rfl)
  have hG2 := hG.up hy
  have q3 : ¬ (d : Int) < 0 := by omega
  cases hB : listR l i d with
  | bad j c =>
    rw [hB] at PT
    have C := Lib.hid (creadL_bad hT2 hG2 hi _ _ j c PT)
    have HY := Lib.hid hy
    clear hT hG hT2 hG2 PT hy hB hyz hlt
    go_enter Tryz.func71, Tryz.ntmps71
    go_wp2_with fail
    refine C.out.mono ?_
    rintro E w1 ⟨rfl, hb⟩
    have HB := Lib.hid (after HY.out hb)
    clear hb C
    go_wp2_with fail
    go_ret3
    exact ⟨rfl, HB.out⟩
  | ok es n =>
    rw [hB] at PT
    have C := Lib.hid (creadL_ok hT2 hG2 hi _ _ es n PT)
    have HY := Lib.hid hy
    have hyz' := hyz
    clear hT hG hT2 hG2 PT hy hB hlt
    go_enter Tryz.func71, Tryz.ntmps71
    go_wp2_with fail
    refine C.out.mono ?_
    rintro E w1 ⟨A, c, rfl, hE, hb⟩
    have HB := Lib.hid (after HY.out hb)
    rw [hyz'] at hE
    have HE := Lib.hid (er_mono hE (show w.heap.size ≤ w.heap.size + 1 + 1 by omega) (Nat.le_refl _))
    clear hb C hE hyz hyz'
    go_wp2_with fail
    go_ret3
    exact ⟨A, c, rfl, HE.out, HB.out⟩
/-! ### Parse, List -/
set_option maxRecDepth 100000 in
set_option maxHeartbeats 1000000 in
theorem parse_fin {w w1 : World} (e : Ex) (A : Option Addr) (k c : Nat) {o : Obj} (hb : Below (w.alloc o).heap.size (w.alloc o) w1) (hE : S3.ER w1 (Rn (w.heap.size + 1) w1.heap.size) e.args (.slice A k c)) :
    S3.ER (put5 w1 w.heap.size (.int .i64 e.kind) (.int .i64 e.op) (.int .i64 e.num) (.string (S3.B e.name)) (.slice A k c)) (Rn w.heap.size (put5 w1 w.heap.size (.int .i64 e.kind) (.int .i64 e.op) (.int .i64 e.num) (.string (S3.B e.name)) (.slice A k c)).heap.size) e.args (.slice A k c) ∧ Below w.heap.size w (put5 w1 w.heap.size (.int .i64 e.kind) (.int .i64 e.op) (.int .i64 e.num) (.string (S3.B e.name)) (.slice A k c)) := by
  have h1 := put5_er hE (show w.heap.size < w.heap.size + 1 by omega) (.int .i64 e.kind) (.int .i64 e.op) (.int .i64 e.num) (.string (S3.B e.name)) (.slice A k c)
  have h2 := put5_below (after (S3.bal w o) hb) (q := w.heap.size) (Nat.le_refl _) (.int .i64 e.kind) (.int .i64 e.op) (.int .i64 e.num) (.string (S3.B e.name)) (.slice A k c)
  generalize put5 w1 w.heap.size (.int .i64 e.kind) (.int .i64 e.op) (.int .i64 e.num) (.string (S3.B e.name)) (.slice A k c) = W at *
  exact ⟨er_mono h1 (by omega) (Nat.le_refl _), h2⟩
set_option maxRecDepth 100000 in
set_option maxHeartbeats 4000000 in
theorem parse_calls {w : World} {l : TL} {v : Value} {i d : Nat} (hT : TokL w w.heap.size v l) (hG : GlobE w) (hi : i ≤ l.length) (hd : d ≤ 9223372036854775807) :
    Calls Tryz.prog 70 #[v, .int .i64 (i : Int), .int .i64 (d : Int)] w (PostP w (parseR l i d)) := by
  have HT := Lib.hid (fun o => (hT.bel (S3.bal w o)).keep (M' := (w.alloc o).heap.size) (by simp) (fun _ _ _ => rfl))
  have HG := Lib.hid (fun o => hG.up (S3.bal w o))
  rw [parseR_is]
  have C := Lib.hid (fun o => readE_calls (HT.out o) (HG.out o) hi hd)
  have Q := Lib.hid (fun a0 a1 a2 a3 a4 => R5.new w a0 a1 a2 a3 a4)
  clear hT hG HT HG
  generalize binR l i d 1 = r at *
  go_enter Tryz.func70, Tryz.ntmps70
  go_wp2_with fail
  refine (C.out _).mono ?_
  intro E w1 hP
  cases r with
  | bad j c =>
    obtain ⟨rfl, hb⟩ := hP
    obtain ⟨z0, z1, z2, z3, z4, r0, r1, r2, r3, r4, y0, y1, y2, y3, y4⟩ := ((Q.out _ _ _ _ _).bel hb).facts
    have HB := Lib.hid (parse_fin zE none 0 0 hb (er_nil _ _)).2
    clear hb
    go_wp2_with fail
    exact bodyPost_ret (v := .tuple #[S3.eV zE (.slice none 0 0), .int .i64 (j : Int), .int .i64 c]) (by simp [results, Tryz.results70, go_sem, r0, r1, r2, r3, r4]) rfl ⟨rfl, HB.out⟩
  | ok e n =>
    obtain ⟨A, k, c, rfl, ho, hE, hb⟩ := hP
    obtain ⟨z0, z1, z2, z3, z4, r0, r1, r2, r3, r4, y0, y1, y2, y3, y4⟩ := ((Q.out _ _ _ _ _).bel hb).facts
    rw [S3.sz1] at hE
    have HB := Lib.hid (parse_fin e A k c hb hE)
    have HO := Lib.hid ho
    clear hb hE ho
    go_wp2_with fail
    exact bodyPost_ret (v := .tuple #[S3.eV e (.slice A k c), .int .i64 (n : Int), .int .i64 0]) (by simp [results, Tryz.results70, go_sem, r0, r1, r2, r3, r4]) rfl ⟨A, k, c, rfl, HO.out, HB.out.1, HB.out.2⟩
theorem list_calls {w : World} {l : TL} {v : Value} {i d : Nat} (hT : TokL w w.heap.size v l) (hG : GlobE w) (hi : i ≤ l.length) (hd : d ≤ 9223372036854775807) (hll : l.length ≤ 1000000) :
    Calls Tryz.prog 65 #[v, .int .i64 (i : Int), .int .i64 (d : Int)] w (PostPL w (listR l i d)) := by
  have C := Lib.hid (readL_calls hT hG hi hd hll)
  clear hT hG
  generalize listR l i d = r at *
  go_enter Tryz.func65, Tryz.ntmps65
  go_wp2_with fail
  refine C.out.mono ?_
  intro E w1 hP
  cases r with
  | bad j c =>
    obtain ⟨rfl, hb⟩ := hP
    have HB := Lib.hid hb
    clear hb
    go_wp2_with fail
    go_ret3
    exact ⟨rfl, HB.out⟩
  | ok es n =>
    obtain ⟨A, c, rfl, hE, hb⟩ := hP
    have HB := Lib.hid hb
    have HE := Lib.hid hE
    clear hb hE
    go_wp2_with fail
    go_ret3
    exact ⟨A, c, rfl, HE.out, HB.out⟩
end Go.Proofs.YtipepljmfgjbpaaGreatDoor.E5
