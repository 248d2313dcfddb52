/-
  The maker of statements: expr: its state, the leaves. Written by gen6_mke.py.
  The maker of statements: expr: an index. Written by gen6_mke.py.
  The maker of statements: expr: one operand. Written by gen6_mke.py.
  The maker of statements: expr: two operands. Written by gen6_mke.py.
  The maker of statements: expr: two operands. Written by gen6_mke.py.
  The maker of statements: expr: contract, whole.
-/
import Derived.Test.YtipepljmfgjbpaaGreatDoorTMk
import Derived.Test.YtipepljmfgjbpaaGreatDoorERd3
import Derived.BigRegion
import Derived.Lib.AppendZeros
import Derived.Deep.RegionWith
import Derived.Deep.RegionHeld3
namespace Go.Proofs.YtipepljmfgjbpaaGreatDoor.E6
open Go Go.RowKit Go.Proofs.YtipepljmfgjbpaaGreatDoor Go.Proofs.YtipepljmfgjbpaaGreatDoor.E5

theorem PtM.new {W : World} {p M : Nat} {all cs : List Nat} {left : Int} {out : TL} (h : MkI W p M all cs left out) (o : Obj) {n : Nat} (hn : n ≤ W.heap.size) : PtM p n (W.alloc o) W.heap.size := by
  have hp := h.p_lt
  refine ⟨hn, by rw [S3.sz1]; omega, by omega, fun ⟨vo, e1, e2⟩ => ?_⟩
  have := (h.out_gt W.heap.size ⟨vo, ((S3.bal W o).cell (p := ⟨p, 3, none⟩) hp).symm.trans e1, e2⟩).2
  omega
/-- In the midst of expr: the result's box, the maker. -/
structure MidM (W wr : World) (p M : Nat) (all cs : List Nat) (left : Int) (out : TL) : Prop where
  r5 : R5 wr W.heap.size
  pt : PtM p W.heap.size wr W.heap.size
  mki : MkI wr p M all cs left out
  fr : FrM p W wr
  le : M ≤ W.heap.size
theorem MidM.start {W : World} {p M : Nat} {all cs : List Nat} {left : Int} {out : TL} (h : MkI W p M all cs left out) (a0 a1 a2 a3 a4 : Value) : MidM W (W.alloc (.cells #[a0, a1, a2, a3, a4] 67)) p M all cs left out :=
  ⟨R5.new W a0 a1 a2 a3 a4, .new h _ (Nat.le_refl _), h.al _, .al W _ h.p_lt, by have := h.p_lt; have := h.lt; omega⟩
theorem MidM.p_lt {W wr : World} {p M : Nat} {all cs : List Nat} {left : Int} {out : TL} (h : MidM W wr p M all cs left out) : p < wr.heap.size := h.mki.p_lt
theorem MidM.step {W wr w' : World} {p M : Nat} {all cs cs' : List Nat} {left left' : Int} {out out' : TL} (h : MidM W wr p M all cs left out) (hI : MkI w' p M all cs' left' out') (hF : FrM p wr w') : MidM W w' p M all cs' left' out' := by
  obtain ⟨a0, a1, a2, a3, a4, e⟩ := h.r5
  exact ⟨⟨a0, a1, a2, a3, a4, (h.pt.heap hF).trans e⟩, h.pt.mv hF, hI, h.fr.trans hF, h.le⟩
theorem MidM.bel {W wr w' : World} {p M : Nat} {all cs : List Nat} {left : Int} {out : TL} (h : MidM W wr p M all cs left out) (hb : Below wr.heap.size wr w') : MidM W w' p M all cs left out := h.step (h.mki.bel hb) (.bel hb h.p_lt)
theorem MidM.al {W wr : World} {p M : Nat} {all cs : List Nat} {left : Int} {out : TL} (h : MidM W wr p M all cs left out) (o : Obj) : MidM W (wr.alloc o) p M all cs left out := h.bel (S3.bal wr o)
/-- A store into a new block that is no part of the maker, nor the result's box. -/
theorem MidM.set {W wr : World} {p M b : Nat} {all cs : List Nat} {left : Int} {out : TL} (h : MidM W wr p M all cs left out) (hb : PtM p W.heap.size wr b) (hne : b ≠ W.heap.size) (i : Nat) (u : Value) : MidM W (wr.setCell ⟨b, i, none⟩ u) p M all cs left out := by
  obtain ⟨a0, a1, a2, a3, a4, e⟩ := h.r5
  refine ⟨⟨a0, a1, a2, a3, a4, (Below.heap_setCell _ _ _ _ (fun e => hne e.symm)).trans e⟩, ⟨h.pt.1, by simpa [World.setCell] using h.pt.2.1, h.pt.2.2.1, fun e => h.pt.2.2.2 ((outB_set hb.2.2.1).1 e)⟩, h.mki.set hb (Nat.le_trans h.le hb.1) i u, h.fr.set hb.1 hb.2.2.1, h.le⟩
theorem PtM.set {p n b c i : Nat} {W : World} {u : Value} (h : PtM p n W b) (hc : c ≠ p) : PtM p n (W.setCell ⟨c, i, none⟩ u) b := ⟨h.1, by simpa [World.setCell] using h.2.1, h.2.2.1, fun e => h.2.2.2 ((outB_set hc).1 e)⟩
/-- What expr gives. -/
def ExP (W : World) (p M : Nat) (all : List Nat) (left : Int) (out : TL) (r : Tr × List Nat) (toks : TL) (E : Ending) (W' : World) : Prop := ∃ A k c, E = .returned (S3.eV r.1.ex (.slice A k c)) ∧ S3.ER W' (PtM p W.heap.size W') r.1.ex.args (.slice A k c) ∧ MkI W' p M all r.2 left (out ++ toks) ∧ FrM p W W'
theorem MidM.put {W wr : World} {p M : Nat} {all cs : List Nat} {left : Int} {out : TL} (h : MidM W wr p M all cs left out) (a0 a1 a2 a3 a4 : Value) : MkI (put5 wr W.heap.size a0 a1 a2 a3 a4) p M all cs left out ∧ FrM p W (put5 wr W.heap.size a0 a1 a2 a3 a4) ∧ ∀ n b, PtM p n wr b → PtM p n (put5 wr W.heap.size a0 a1 a2 a3 a4) b := by
  have hne := h.pt.2.2.1
  have s := fun (n b i : Nat) (u : Value) (w : World) (hb : PtM p n w b) => PtM.set (i := i) (u := u) hb hne
  have m0 := h.mki.set h.pt h.le 0 a0
  have p0 := s _ _ 0 a0 _ h.pt
  have m1 := m0.set p0 h.le 1 a1
  have p1 := s _ _ 1 a1 _ p0
  have m2 := m1.set p1 h.le 2 a2
  have p2 := s _ _ 2 a2 _ p1
  have m3 := m2.set p2 h.le 3 a3
  have p3 := s _ _ 3 a3 _ p2
  have m4 := m3.set p3 h.le 4 a4
  exact ⟨m4, ((((h.fr.set (Nat.le_refl _) hne).set (Nat.le_refl _) hne).set (Nat.le_refl _) hne).set (Nat.le_refl _) hne).set (Nat.le_refl _) hne, fun n b hb => s _ _ _ _ _ (s _ _ _ _ _ (s _ _ _ _ _ (s _ _ _ _ _ (s _ _ _ _ _ hb))))⟩
theorem MidM.done {W wr : World} {p M : Nat} {all cs : List Nat} {left : Int} {out toks : TL} {t : Tr} (h : MidM W wr p M all cs left (out ++ toks)) {A : Option Addr} {k c : Nat} (hE : S3.ER wr (PtM p (W.heap.size + 1) wr) t.ex.args (.slice A k c)) (a0 a1 a2 a3 a4 : Value) :
    ExP W p M all left out (t, cs) toks (.returned (S3.eV t.ex (.slice A k c))) (put5 wr W.heap.size a0 a1 a2 a3 a4) := by
  obtain ⟨h1, h2, h3⟩ := h.put a0 a1 a2 a3 a4
  exact ⟨A, k, c, rfl, hE.keep (fun b hb => (h3 _ b hb).mono (by omega)) fun b _ hb => World.cell?_of_block (w := wr) (put5_heap wr W.heap.size a0 a1 a2 a3 a4 b (by have := hb.1; omega)), h1, h2⟩
theorem MidM.cast {W wr : World} {p M : Nat} {all cs : List Nat} {left : Int} {out out' : TL} (h : MidM W wr p M all cs left out) (e : out = out') : MidM W wr p M all cs left out' := e ▸ h
/-- An expression's box beside the maker. -/
structure BoxM (p n : Nat) (wr : World) (q : Nat) (a0 a1 a2 a3 a4 : Value) : Prop where
  row : wr.heap[q]? = some (.cells #[a0, a1, a2, a3, a4] 67 (0, 0))
  pt : PtM p n wr q
theorem BoxM.new {W wr : World} {p M n : Nat} {all cs : List Nat} {left : Int} {out : TL} (h : MidM W wr p M all cs left out) (hn : n ≤ wr.heap.size) (a0 a1 a2 a3 a4 : Value) : BoxM p n (wr.alloc (.cells #[a0, a1, a2, a3, a4] 67)) wr.heap.size a0 a1 a2 a3 a4 :=
  ⟨heap_alloc_new wr _, .new h.mki _ hn⟩
theorem BoxM.step {wr w' : World} {p n q : Nat} {a0 a1 a2 a3 a4 : Value} (h : BoxM p n wr q a0 a1 a2 a3 a4) (hF : FrM p wr w') : BoxM p n w' q a0 a1 a2 a3 a4 := ⟨(h.pt.heap hF).trans h.row, h.pt.mv hF⟩
theorem BoxM.facts {wr : World} {p n q : Nat} {a0 a1 a2 a3 a4 : Value} (h : BoxM p n wr q a0 a1 a2 a3 a4) : wr.cell? ⟨q, 0, none⟩ = some a0 ∧ wr.cell? ⟨q, 1, none⟩ = some a1 ∧ wr.cell? ⟨q, 2, none⟩ = some a2 ∧ wr.cell? ⟨q, 3, none⟩ = some a3 ∧ wr.cell? ⟨q, 4, none⟩ = some a4 :=
  ⟨(cell_of_row _ _ 0 _ _ _ h.row).trans rfl, (cell_of_row _ _ 1 _ _ _ h.row).trans rfl, (cell_of_row _ _ 2 _ _ _ h.row).trans rfl, (cell_of_row _ _ 3 _ _ _ h.row).trans rfl, (cell_of_row _ _ 4 _ _ _ h.row).trans rfl⟩
theorem BoxM.froz {wr : World} {p n q i : Nat} {a0 a1 a2 a3 a4 : Value} (h : BoxM p n wr q a0 a1 a2 a3 a4) : wr.frozen? ⟨q, i, none⟩ = false := by
  unfold World.frozen?; rw [h.row]; simp
theorem BoxM.set4 {wr : World} {p n q : Nat} {a0 a1 a2 a3 a4 : Value} (h : BoxM p n wr q a0 a1 a2 a3 a4) (u : Value) : BoxM p n (wr.setCell ⟨q, 4, none⟩ u) q a0 a1 a2 a3 u := by
  have hr := h.row
  refine ⟨?_, h.pt.set h.pt.2.2.1⟩
  simp only [World.setCell, Array.getElem?_modify, if_true, hr]
  rfl
/-- An array of one expression, whose slice is stored into a box. -/
theorem erM_one {W w5 : World} {p M : Nat} {all cs : List Nat} {left : Int} {out : TL} (h : MidM W w5 p M all cs left out) {q2 n5 : Nat} {a0 a1 a2 a3 a4 : Value} (hB : BoxM p (W.heap.size + 1) w5 q2 a0 a1 a2 a3 a4) {e : Ex} {A : Option Addr} {k c : Nat} (hE : S3.ER w5 (PtM p n5 w5) e.args (.slice A k c)) (hn : q2 < n5) (ho : S3.OkE e) :
    MidM W ((w5.setCell ⟨q2, 4, none⟩ (.slice (some ⟨w5.heap.size, 0, none⟩) 1 1)).alloc (S3.eO e (.slice A k c))) p M all cs left out ∧
      BoxM p (W.heap.size + 1) ((w5.setCell ⟨q2, 4, none⟩ (.slice (some ⟨w5.heap.size, 0, none⟩) 1 1)).alloc (S3.eO e (.slice A k c))) q2 a0 a1 a2 a3 (.slice (some ⟨w5.heap.size, 0, none⟩) 1 1) ∧
      S3.ER ((w5.setCell ⟨q2, 4, none⟩ (.slice (some ⟨w5.heap.size, 0, none⟩) 1 1)).alloc (S3.eO e (.slice A k c))) (PtM p (W.heap.size + 1) ((w5.setCell ⟨q2, 4, none⟩ (.slice (some ⟨w5.heap.size, 0, none⟩) 1 1)).alloc (S3.eO e (.slice A k c)))) [e] (.slice (some ⟨w5.heap.size, 0, none⟩) 1 1) ∧
      ((w5.setCell ⟨q2, 4, none⟩ (.slice (some ⟨w5.heap.size, 0, none⟩) 1 1)).alloc (S3.eO e (.slice A k c))).heap.size = w5.heap.size + 1 := by
  have hne : q2 ≠ W.heap.size := by have := hB.pt.1; omega
  have h5 := h.set (hB.pt.mono (by omega)) hne 4 (.slice (some ⟨w5.heap.size, 0, none⟩) 1 1)
  have hz : (w5.setCell ⟨q2, 4, none⟩ (.slice (some ⟨w5.heap.size, 0, none⟩) 1 1)).heap.size = w5.heap.size := by simp [World.setCell]
  have hb5 := S3.bal (w5.setCell ⟨q2, 4, none⟩ (.slice (some ⟨w5.heap.size, 0, none⟩) 1 1)) (S3.eO e (.slice A k c))
  have hF5 := FrM.bel hb5 h5.p_lt
  have hnew := heap_alloc_new (w5.setCell ⟨q2, 4, none⟩ (.slice (some ⟨w5.heap.size, 0, none⟩) 1 1)) (S3.eO e (.slice A k c))
  have hptn := PtM.new h5.mki (S3.eO e (.slice A k c)) (n := W.heap.size + 1) h5.r5.lt
  have hz2 := S3.sz1 (w5.setCell ⟨q2, 4, none⟩ (.slice (some ⟨w5.heap.size, 0, none⟩) 1 1)) (S3.eO e (.slice A k c))
  rw [hz] at hnew hptn hz2
  have hE5 : S3.ER (w5.setCell ⟨q2, 4, none⟩ (.slice (some ⟨w5.heap.size, 0, none⟩) 1 1)) (PtM p (W.heap.size + 1) (w5.setCell ⟨q2, 4, none⟩ (.slice (some ⟨w5.heap.size, 0, none⟩) 1 1))) e.args (.slice A k c) :=
    hE.keep (fun b hb => (hb.set hB.pt.2.2.1).mono (by have := hB.pt.1; omega)) fun b i hb => World.cell?_of_block (w := w5) (Below.heap_setCell _ _ _ b (by have := hb.1; show b ≠ q2; omega))
  have hE6 := er_frm' hE5 hF5
  refine ⟨h5.al _, (hB.set4 _).step hF5, ?_, hz2⟩
  refine S3.ER.mk [e] (some ⟨w5.heap.size, 0, none⟩) 1 (fun _ => .slice A k c) (by simp) (fun j y hy => ?_) (fun j y hy => ?_)
  · rcases j with _ | j
    · simp at hy; subst hy
      exact ⟨w5.heap.size, 0, rfl, hptn, ho, (cell_of_row _ _ 0 _ _ _ hnew).trans rfl, (cell_of_row _ _ 1 _ _ _ hnew).trans rfl, (cell_of_row _ _ 2 _ _ _ hnew).trans rfl, (cell_of_row _ _ 3 _ _ _ hnew).trans rfl, (cell_of_row _ _ 4 _ _ _ hnew).trans rfl⟩
    · simp at hy
  · rcases j with _ | j
    · simp at hy; subst hy; exact hE6
    · simp at hy
/-- The tokens of an operand, or of an expression that is none. -/
def tokT (op : Bool) (t : Tr) : TL := parT (op && t.comp) t.tk
/-- What is given of the expressions that are less deep. -/
def ExC (n : Nat) (deep : Int) (op : Bool) : Prop := ∀ (W : World) (p M : Nat) (all cs : List Nat) (left : Int) (out : TL), MkI W p M all cs left out → out.length + (tokT op (mkT n cs).1).length ≤ 1000000 → Calls Tryz.prog 27 #[mpt p, .int .i64 deep, .bool op] W (ExP W p M all left out (mkT n cs) (tokT op (mkT n cs).1))
theorem tr_okE6 {t : Tr} (h : t.ok) : S3.OkE t.ex := by
  have nm : ∀ {s : List UInt8}, S3.nameB s = true → s.length ≤ 9223372036854775807 := fun {s} hs => by
    simp only [S3.nameB, Bool.and_eq_true, decide_eq_true_eq] at hs
    omega
  have kk : ∀ k : Int, 0 ≤ k → k ≤ 20 → S3.okI k := fun k h1 h2 => by unfold S3.okI; omega
  cases t with
  | num n => exact ⟨kk 1 (by decide) (by decide), kk 0 (by decide) (by decide), by show S3.okI (n : Int); unfold S3.okI; have h : n ≤ 9223372036854775807 := h; omega, Nat.zero_le _⟩
  | bool b => exact ⟨kk 2 (by decide) (by decide), kk 0 (by decide) (by decide), by cases b <;> (unfold S3.okI; decide), Nat.zero_le _⟩
  | len s => exact ⟨kk 7 (by decide) (by decide), kk 0 (by decide) (by decide), kk 0 (by decide) (by decide), nm h⟩
  | var s => exact ⟨kk 3 (by decide) (by decide), kk 0 (by decide) (by decide), kk 0 (by decide) (by decide), nm h⟩
  | un op a => exact ⟨kk 4 (by decide) (by decide), kk op (by have := h.1; omega) (by have := h.1; omega), kk 0 (by decide) (by decide), Nat.zero_le _⟩
  | idx s a => exact ⟨kk 6 (by decide) (by decide), kk 0 (by decide) (by decide), kk 0 (by decide) (by decide), nm h.1⟩
  | bin op a b => exact ⟨kk 5 (by decide) (by decide), kk op (by have := h.1; omega) (by have := h.1; omega), kk 0 (by decide) (by decide), Nat.zero_le _⟩
theorem dg_all : ∀ d : Fin 10, wtk [UInt8.ofNat (48 + d.1)] = (2, Lib.decDigits d.1) := by decide +kernel
theorem dg_wtk {d : Nat} (h : d < 10) : wtk [UInt8.ofNat (48 + d)] = (2, Lib.decDigits d) := dg_all ⟨d, h⟩
set_option maxRecDepth 100000 in
set_option maxHeartbeats 8000000 in
theorem exprM_var0 {W : World} {p M : Nat} {all cs : List Nat} {left : Int} {out : TL} (h : MkI W p M all cs left out) (deep : Int) (op : Bool) (hdeep : deep ≤ 1) (hk : hdB cs % 4 = 2) (hlen : out.length + 1 ≤ 1000000) :
    Calls Tryz.prog 27 #[mpt p, .int .i64 deep, .bool op] W (ExP W p M all left out ((.var (nmW (hdB (tlB cs))), tlB (tlB cs))) ([(1, nmW (hdB (tlB cs)))])) := by
  have qk : (hdB cs : Int) % 4 = 2 := by omega
  have hp := h.p_lt
  have hM := Lib.hid (MidM.start h (.int .i64 0) (.int .i64 0) (.int .i64 0) (.string ⟨#[]⟩) (.slice none 0 0))
  have C := Lib.hid (byteM (h.al (.cells #[.int .i64 0, .int .i64 0, .int .i64 0, .string ⟨#[]⟩, .slice none 0 0] 67)))
  have h256 := h.byt.hd
  clear h
  generalize hb : hdB cs = b at *
  go_enter Tryz.func27, Tryz.ntmps27
  try simp only [List.append_eq, List.cons_append, List.nil_append]
  go_wp2_with fail
  refine C.out.mono ?_
  rintro E w1 ⟨rfl, hI, hF⟩
  have HM := Lib.hid (hM.out.step hI hF)
  clear hI hF C hM
  go_wp2_with fail
  refine (nameM HM.out.mki hlen).mono ?_
  rintro E w2 ⟨rfl, hI, hF⟩
  have HM2 := Lib.hid (HM.out.step hI hF)
  clear hI hF HM
  obtain ⟨z0, z1, z2, z3, z4, r0, r1, r2, r3, r4, y0, y1, y2, y3, y4⟩ := HM2.out.r5.facts
  have hq1 := HM2.out.r5.lt
  have HD := Lib.hid ((HM2.out).done (t := .var (nmW (hdB (tlB cs)))) (S3.ER.nil none 0) (.int .i64 3) (.int .i64 0) (.int .i64 0) (.string (B (nmW (hdB (tlB cs))))) (.slice none 0 0))
  go_wp2_with fail
  exact bodyPost_ret (v := S3.eV (Tr.ex (.var (nmW (hdB (tlB cs))))) (.slice none 0 0)) (by simp [results, Tryz.results27, go_sem, Tr.ex, r0, r1, r2, r3, r4]) rfl HD.out
set_option maxRecDepth 100000 in
set_option maxHeartbeats 8000000 in
theorem exprM_var1 {W : World} {p M : Nat} {all cs : List Nat} {left : Int} {out : TL} (h : MkI W p M all cs left out) (deep : Int) (op : Bool) (hdeep : ¬ deep ≤ 1) (hk : hdB cs % 7 = 2) (hlen : out.length + 1 ≤ 1000000) :
    Calls Tryz.prog 27 #[mpt p, .int .i64 deep, .bool op] W (ExP W p M all left out ((.var (nmW (hdB (tlB cs))), tlB (tlB cs))) ([(1, nmW (hdB (tlB cs)))])) := by
  have qk : (hdB cs : Int) % 7 = 2 := by omega
  have hp := h.p_lt
  have hM := Lib.hid (MidM.start h (.int .i64 0) (.int .i64 0) (.int .i64 0) (.string ⟨#[]⟩) (.slice none 0 0))
  have C := Lib.hid (byteM (h.al (.cells #[.int .i64 0, .int .i64 0, .int .i64 0, .string ⟨#[]⟩, .slice none 0 0] 67)))
  have h256 := h.byt.hd
  clear h
  generalize hb : hdB cs = b at *
  go_enter Tryz.func27, Tryz.ntmps27
  try simp only [List.append_eq, List.cons_append, List.nil_append]
  go_wp2_with fail
  refine C.out.mono ?_
  rintro E w1 ⟨rfl, hI, hF⟩
  have HM := Lib.hid (hM.out.step hI hF)
  clear hI hF C hM
  go_wp2_with fail
  refine (nameM HM.out.mki hlen).mono ?_
  rintro E w2 ⟨rfl, hI, hF⟩
  have HM2 := Lib.hid (HM.out.step hI hF)
  clear hI hF HM
  obtain ⟨z0, z1, z2, z3, z4, r0, r1, r2, r3, r4, y0, y1, y2, y3, y4⟩ := HM2.out.r5.facts
  have hq1 := HM2.out.r5.lt
  have HD := Lib.hid ((HM2.out).done (t := .var (nmW (hdB (tlB cs)))) (S3.ER.nil none 0) (.int .i64 3) (.int .i64 0) (.int .i64 0) (.string (B (nmW (hdB (tlB cs))))) (.slice none 0 0))
  go_wp2_with fail
  exact bodyPost_ret (v := S3.eV (Tr.ex (.var (nmW (hdB (tlB cs))))) (.slice none 0 0)) (by simp [results, Tryz.results27, go_sem, Tr.ex, r0, r1, r2, r3, r4]) rfl HD.out
set_option maxRecDepth 100000 in
set_option maxHeartbeats 8000000 in
theorem exprM_num0 {W : World} {p M : Nat} {all cs : List Nat} {left : Int} {out : TL} (h : MkI W p M all cs left out) (deep : Int) (op : Bool) (hdeep : deep ≤ 1) (hk : hdB cs % 4 = 0) (hlen : out.length + 1 ≤ 1000000) :
    Calls Tryz.prog 27 #[mpt p, .int .i64 deep, .bool op] W (ExP W p M all left out ((.num (hdB cs / 7 % 10), tlB cs)) ([(2, Lib.decDigits (hdB cs / 7 % 10))])) := by
  have qk : (hdB cs : Int) % 4 = 0 := by omega
  have hp := h.p_lt
  have hM := Lib.hid (MidM.start h (.int .i64 0) (.int .i64 0) (.int .i64 0) (.string ⟨#[]⟩) (.slice none 0 0))
  have C := Lib.hid (byteM (h.al (.cells #[.int .i64 0, .int .i64 0, .int .i64 0, .string ⟨#[]⟩, .slice none 0 0] 67)))
  have h256 := h.byt.hd
  clear h
  have hcv := fun W => conv_new W (48 + hdB cs / 7 % 10) (by omega)
  rw [show ((48 + hdB cs / 7 % 10 : Nat) : Int) = 48 + (hdB cs : Int) / 7 % 10 by omega] at hcv
  have hdg : wtk [UInt8.ofNat (48 + hdB cs / 7 % 10)] = (2, Lib.decDigits (hdB cs / 7 % 10)) := dg_wtk (by omega)
  rw [← hdg]
  generalize UInt8.ofNat (48 + hdB cs / 7 % 10) = y at *
  generalize hb : hdB cs = b at *
  go_enter Tryz.func27, Tryz.ntmps27
  try simp only [List.append_eq, List.cons_append, List.nil_append]
  go_wp2_with fail
  refine C.out.mono ?_
  rintro E w1 ⟨rfl, hI, hF⟩
  have HM := Lib.hid (hM.out.step hI hF)
  clear hI hF C hM
  have hcv := hcv w1
  have hp1 := HM.out.p_lt
  go_wp2_with fail
  have hS := strL_one (w1.alloc (.cells #[.int .u8 (48 + (b : Int) / 7 % 10)] 5)) (s := [y]) (by simp) (by simp)
  rw [S3.sz1 w1] at hS
  have HX := Lib.hid ((HM.out.al (.cells #[.int .u8 (48 + (b : Int) / 7 % 10)] 5)).al (.cells #[.string (B [y])] 9))
  have D := Lib.hid (addM HX.out.mki hS (by simp) (by simpa using hlen))
  clear hS hcv hdg
  refine D.out.mono ?_
  rintro E w2 ⟨rfl, hI, hF⟩
  have HM2 := Lib.hid (HX.out.step hI hF)
  clear hI hF HM HX D
  obtain ⟨z0, z1, z2, z3, z4, r0, r1, r2, r3, r4, y0, y1, y2, y3, y4⟩ := HM2.out.r5.facts
  have hq1 := HM2.out.r5.lt
  have HD := Lib.hid ((HM2.out.cast (out' := out ++ [wtk [y]]) (by first | rfl | simp only [List.append_assoc, List.cons_append, List.nil_append])).done (t := .num (b / 7 % 10)) (S3.ER.nil none 0) (.int .i64 1) (.int .i64 0) (.int .i64 ((b : Int) / 7 % 10)) (.string ⟨#[]⟩) (.slice none 0 0))
  go_wp2_with fail
  exact bodyPost_ret (v := S3.eV (Tr.ex (.num (b / 7 % 10))) (.slice none 0 0)) (by simp [results, Tryz.results27, go_sem, Tr.ex, r0, r1, r2, r3, r4]) rfl HD.out
set_option maxRecDepth 100000 in
set_option maxHeartbeats 8000000 in
theorem exprM_num1 {W : World} {p M : Nat} {all cs : List Nat} {left : Int} {out : TL} (h : MkI W p M all cs left out) (deep : Int) (op : Bool) (hdeep : ¬ deep ≤ 1) (hk : hdB cs % 7 = 0) (hlen : out.length + 1 ≤ 1000000) :
    Calls Tryz.prog 27 #[mpt p, .int .i64 deep, .bool op] W (ExP W p M all left out ((.num (hdB cs / 7 % 10), tlB cs)) ([(2, Lib.decDigits (hdB cs / 7 % 10))])) := by
  have qk : (hdB cs : Int) % 7 = 0 := by omega
  have hp := h.p_lt
  have hM := Lib.hid (MidM.start h (.int .i64 0) (.int .i64 0) (.int .i64 0) (.string ⟨#[]⟩) (.slice none 0 0))
  have C := Lib.hid (byteM (h.al (.cells #[.int .i64 0, .int .i64 0, .int .i64 0, .string ⟨#[]⟩, .slice none 0 0] 67)))
  have h256 := h.byt.hd
  clear h
  have hcv := fun W => conv_new W (48 + hdB cs / 7 % 10) (by omega)
  rw [show ((48 + hdB cs / 7 % 10 : Nat) : Int) = 48 + (hdB cs : Int) / 7 % 10 by omega] at hcv
  have hdg : wtk [UInt8.ofNat (48 + hdB cs / 7 % 10)] = (2, Lib.decDigits (hdB cs / 7 % 10)) := dg_wtk (by omega)
  rw [← hdg]
  generalize UInt8.ofNat (48 + hdB cs / 7 % 10) = y at *
  generalize hb : hdB cs = b at *
  go_enter Tryz.func27, Tryz.ntmps27
  try simp only [List.append_eq, List.cons_append, List.nil_append]
  go_wp2_with fail
  refine C.out.mono ?_
  rintro E w1 ⟨rfl, hI, hF⟩
  have HM := Lib.hid (hM.out.step hI hF)
  clear hI hF C hM
  have hcv := hcv w1
  have hp1 := HM.out.p_lt
  go_wp2_with fail
  have hS := strL_one (w1.alloc (.cells #[.int .u8 (48 + (b : Int) / 7 % 10)] 5)) (s := [y]) (by simp) (by simp)
  rw [S3.sz1 w1] at hS
  have HX := Lib.hid ((HM.out.al (.cells #[.int .u8 (48 + (b : Int) / 7 % 10)] 5)).al (.cells #[.string (B [y])] 9))
  have D := Lib.hid (addM HX.out.mki hS (by simp) (by simpa using hlen))
  clear hS hcv hdg
  refine D.out.mono ?_
  rintro E w2 ⟨rfl, hI, hF⟩
  have HM2 := Lib.hid (HX.out.step hI hF)
  clear hI hF HM HX D
  obtain ⟨z0, z1, z2, z3, z4, r0, r1, r2, r3, r4, y0, y1, y2, y3, y4⟩ := HM2.out.r5.facts
  have hq1 := HM2.out.r5.lt
  have HD := Lib.hid ((HM2.out.cast (out' := out ++ [wtk [y]]) (by first | rfl | simp only [List.append_assoc, List.cons_append, List.nil_append])).done (t := .num (b / 7 % 10)) (S3.ER.nil none 0) (.int .i64 1) (.int .i64 0) (.int .i64 ((b : Int) / 7 % 10)) (.string ⟨#[]⟩) (.slice none 0 0))
  go_wp2_with fail
  exact bodyPost_ret (v := S3.eV (Tr.ex (.num (b / 7 % 10))) (.slice none 0 0)) (by simp [results, Tryz.results27, go_sem, Tr.ex, r0, r1, r2, r3, r4]) rfl HD.out
set_option maxRecDepth 100000 in
set_option maxHeartbeats 8000000 in
theorem exprM_len0 {W : World} {p M : Nat} {all cs : List Nat} {left : Int} {out : TL} (h : MkI W p M all cs left out) (deep : Int) (op : Bool) (hdeep : deep ≤ 1) (hk : hdB cs % 4 = 3) (hlen : out.length + 4 ≤ 1000000) :
    Calls Tryz.prog 27 #[mpt p, .int .i64 deep, .bool op] W (ExP W p M all left out ((.len (nmW (hdB (tlB cs))), tlB (tlB cs))) ([(3, [108, 101, 110]), tOpen, (1, nmW (hdB (tlB cs))), tShut])) := by
  have qk : (hdB cs : Int) % 4 = 3 := by omega
  have hp := h.p_lt
  have hM := Lib.hid (MidM.start h (.int .i64 0) (.int .i64 0) (.int .i64 0) (.string ⟨#[]⟩) (.slice none 0 0))
  have C := Lib.hid (byteM (h.al (.cells #[.int .i64 0, .int .i64 0, .int .i64 0, .string ⟨#[]⟩, .slice none 0 0] 67)))
  have h256 := h.byt.hd
  clear h
  generalize hb : hdB cs = b at *
  go_enter Tryz.func27, Tryz.ntmps27
  try simp only [List.append_eq, List.cons_append, List.nil_append]
  go_wp2_with fail
  refine C.out.mono ?_
  rintro E w1 ⟨rfl, hI, hF⟩
  have HM := Lib.hid (hM.out.step hI hF)
  clear hI hF C hM
  have hp1 := HM.out.p_lt
  go_wp2_with fail
  have hS : StrL (w1.alloc (.cells #[.string ⟨#[108, 101, 110]⟩, .string ⟨#[40]⟩] 9)) (w1.alloc (.cells #[.string ⟨#[108, 101, 110]⟩, .string ⟨#[40]⟩] 9)).heap.size (.slice (some ⟨w1.heap.size, 0, none⟩) 2 2) [[108, 101, 110], [40]] := strL_new w1 [[108, 101, 110], [40]] 9 rfl
  have D := addM (HM.out.mki.al (.cells #[.string ⟨#[108, 101, 110]⟩, .string ⟨#[40]⟩] 9)) hS (by simp) (by simp; omega)
  rw [show List.map wtk [[108, 101, 110], [40]] = [(3, [108, 101, 110]), tOpen] by decide +kernel] at D
  have D := Lib.hid D
  have HX := Lib.hid (HM.out.al (.cells #[.string ⟨#[108, 101, 110]⟩, .string ⟨#[40]⟩] 9))
  clear hS
  refine D.out.mono ?_
  rintro E w2 ⟨rfl, hI, hF⟩
  have HM2 := Lib.hid (HX.out.step hI hF)
  clear hI hF HM HX D
  have N := nameM HM2.out.mki (by simp; omega)
  generalize hx : nmW (hdB (tlB cs)) = x at *
  have N := Lib.hid N
  go_wp2_with fail
  refine N.out.mono ?_
  rintro E w3 ⟨rfl, hI, hF⟩
  have HM3 := Lib.hid (HM2.out.step hI hF)
  have hz3 := HM2.out.r5.lt
  clear hI hF HM2 N
  have hp3 := HM3.out.p_lt
  have HB := Lib.hid (BoxM.new HM3.out (n := W.heap.size + 1) HM3.out.r5.lt (.int .i64 7) (.int .i64 0) (.int .i64 0) (.string (B x)) (.slice none 0 0))
  have HM4 := Lib.hid (HM3.out.al (.cells #[.int .i64 7, .int .i64 0, .int .i64 0, .string (B x), .slice none 0 0] 67))
  have hp4 := HM4.out.p_lt
  have hz4 := S3.sz1 w3 (.cells #[.int .i64 7, .int .i64 0, .int .i64 0, .string (B x), .slice none 0 0] 67)
  go_wp2_with fail
  generalize hq : w3.heap.size = q2 at *
  generalize w3.alloc (.cells #[.int .i64 7, .int .i64 0, .int .i64 0, .string (B x), .slice none 0 0] 67) = w4 at *
  have hS : StrL (w4.alloc (.cells #[.string ⟨#[41]⟩] 9)) (w4.alloc (.cells #[.string ⟨#[41]⟩] 9)).heap.size (.slice (some ⟨w4.heap.size, 0, none⟩) 1 1) [[41]] := strL_new w4 [[41]] 9 rfl
  have D := addM (HM4.out.mki.al (.cells #[.string ⟨#[41]⟩] 9)) hS (by simp) (by simp; omega)
  rw [show List.map wtk [[41]] = [tShut] by decide +kernel] at D
  rw [hz4] at D
  have D := Lib.hid D
  have HX := Lib.hid (HM4.out.al (.cells #[.string ⟨#[41]⟩] 9))
  clear hS
  refine D.out.mono ?_
  rintro E w5 ⟨rfl, hI, hF⟩
  have HM5 := Lib.hid (HX.out.step hI hF)
  have HB5 := Lib.hid ((HB.out.step (.al w4 _ hp4)).step hF)
  clear hI hF HM4 HX D HB HM3
  obtain ⟨e0, e1, e2, e3, e4⟩ := HB5.out.facts
  have hq5 := HB5.out.pt.2.1
  obtain ⟨z0, z1, z2, z3, z4, r0, r1, r2, r3, r4, y0, y1, y2, y3, y4⟩ := HM5.out.r5.facts
  have hq1 := HM5.out.r5.lt
  have HD := Lib.hid ((HM5.out.cast (out' := out ++ [(3, [108, 101, 110]), tOpen, (1, x), tShut]) (by first | rfl | simp only [List.append_assoc, List.cons_append, List.nil_append])).done (t := .len x) (S3.ER.nil none 0) (.int .i64 7) (.int .i64 0) (.int .i64 0) (.string (B x)) (.slice none 0 0))
  go_wp2_with fail
  exact bodyPost_ret (v := S3.eV (Tr.ex (.len x)) (.slice none 0 0)) (by simp [results, Tryz.results27, go_sem, Tr.ex, r0, r1, r2, r3, r4]) rfl HD.out
set_option maxRecDepth 100000 in
set_option maxHeartbeats 8000000 in
theorem exprM_len1 {W : World} {p M : Nat} {all cs : List Nat} {left : Int} {out : TL} (h : MkI W p M all cs left out) (deep : Int) (op : Bool) (hdeep : ¬ deep ≤ 1) (hk : hdB cs % 7 = 3) (hlen : out.length + 4 ≤ 1000000) :
    Calls Tryz.prog 27 #[mpt p, .int .i64 deep, .bool op] W (ExP W p M all left out ((.len (nmW (hdB (tlB cs))), tlB (tlB cs))) ([(3, [108, 101, 110]), tOpen, (1, nmW (hdB (tlB cs))), tShut])) := by
  have qk : (hdB cs : Int) % 7 = 3 := by omega
  have hp := h.p_lt
  have hM := Lib.hid (MidM.start h (.int .i64 0) (.int .i64 0) (.int .i64 0) (.string ⟨#[]⟩) (.slice none 0 0))
  have C := Lib.hid (byteM (h.al (.cells #[.int .i64 0, .int .i64 0, .int .i64 0, .string ⟨#[]⟩, .slice none 0 0] 67)))
  have h256 := h.byt.hd
  clear h
  generalize hb : hdB cs = b at *
  go_enter Tryz.func27, Tryz.ntmps27
  try simp only [List.append_eq, List.cons_append, List.nil_append]
  go_wp2_with fail
  refine C.out.mono ?_
  rintro E w1 ⟨rfl, hI, hF⟩
  have HM := Lib.hid (hM.out.step hI hF)
  clear hI hF C hM
  have hp1 := HM.out.p_lt
  go_wp2_with fail
  have hS : StrL (w1.alloc (.cells #[.string ⟨#[108, 101, 110]⟩, .string ⟨#[40]⟩] 9)) (w1.alloc (.cells #[.string ⟨#[108, 101, 110]⟩, .string ⟨#[40]⟩] 9)).heap.size (.slice (some ⟨w1.heap.size, 0, none⟩) 2 2) [[108, 101, 110], [40]] := strL_new w1 [[108, 101, 110], [40]] 9 rfl
  have D := addM (HM.out.mki.al (.cells #[.string ⟨#[108, 101, 110]⟩, .string ⟨#[40]⟩] 9)) hS (by simp) (by simp; omega)
  rw [show List.map wtk [[108, 101, 110], [40]] = [(3, [108, 101, 110]), tOpen] by decide +kernel] at D
  have D := Lib.hid D
  have HX := Lib.hid (HM.out.al (.cells #[.string ⟨#[108, 101, 110]⟩, .string ⟨#[40]⟩] 9))
  clear hS
  refine D.out.mono ?_
  rintro E w2 ⟨rfl, hI, hF⟩
  have HM2 := Lib.hid (HX.out.step hI hF)
  clear hI hF HM HX D
  have N := nameM HM2.out.mki (by simp; omega)
  generalize hx : nmW (hdB (tlB cs)) = x at *
  have N := Lib.hid N
  go_wp2_with fail
  refine N.out.mono ?_
  rintro E w3 ⟨rfl, hI, hF⟩
  have HM3 := Lib.hid (HM2.out.step hI hF)
  have hz3 := HM2.out.r5.lt
  clear hI hF HM2 N
  have hp3 := HM3.out.p_lt
  have HB := Lib.hid (BoxM.new HM3.out (n := W.heap.size + 1) HM3.out.r5.lt (.int .i64 7) (.int .i64 0) (.int .i64 0) (.string (B x)) (.slice none 0 0))
  have HM4 := Lib.hid (HM3.out.al (.cells #[.int .i64 7, .int .i64 0, .int .i64 0, .string (B x), .slice none 0 0] 67))
  have hp4 := HM4.out.p_lt
  have hz4 := S3.sz1 w3 (.cells #[.int .i64 7, .int .i64 0, .int .i64 0, .string (B x), .slice none 0 0] 67)
  go_wp2_with fail
  generalize hq : w3.heap.size = q2 at *
  generalize w3.alloc (.cells #[.int .i64 7, .int .i64 0, .int .i64 0, .string (B x), .slice none 0 0] 67) = w4 at *
  have hS : StrL (w4.alloc (.cells #[.string ⟨#[41]⟩] 9)) (w4.alloc (.cells #[.string ⟨#[41]⟩] 9)).heap.size (.slice (some ⟨w4.heap.size, 0, none⟩) 1 1) [[41]] := strL_new w4 [[41]] 9 rfl
  have D := addM (HM4.out.mki.al (.cells #[.string ⟨#[41]⟩] 9)) hS (by simp) (by simp; omega)
  rw [show List.map wtk [[41]] = [tShut] by decide +kernel] at D
  rw [hz4] at D
  have D := Lib.hid D
  have HX := Lib.hid (HM4.out.al (.cells #[.string ⟨#[41]⟩] 9))
  clear hS
  refine D.out.mono ?_
  rintro E w5 ⟨rfl, hI, hF⟩
  have HM5 := Lib.hid (HX.out.step hI hF)
  have HB5 := Lib.hid ((HB.out.step (.al w4 _ hp4)).step hF)
  clear hI hF HM4 HX D HB HM3
  obtain ⟨e0, e1, e2, e3, e4⟩ := HB5.out.facts
  have hq5 := HB5.out.pt.2.1
  obtain ⟨z0, z1, z2, z3, z4, r0, r1, r2, r3, r4, y0, y1, y2, y3, y4⟩ := HM5.out.r5.facts
  have hq1 := HM5.out.r5.lt
  have HD := Lib.hid ((HM5.out.cast (out' := out ++ [(3, [108, 101, 110]), tOpen, (1, x), tShut]) (by first | rfl | simp only [List.append_assoc, List.cons_append, List.nil_append])).done (t := .len x) (S3.ER.nil none 0) (.int .i64 7) (.int .i64 0) (.int .i64 0) (.string (B x)) (.slice none 0 0))
  go_wp2_with fail
  exact bodyPost_ret (v := S3.eV (Tr.ex (.len x)) (.slice none 0 0)) (by simp [results, Tryz.results27, go_sem, Tr.ex, r0, r1, r2, r3, r4]) rfl HD.out
set_option maxRecDepth 100000 in
set_option maxHeartbeats 8000000 in
theorem exprM_bool0f {W : World} {p M : Nat} {all cs : List Nat} {left : Int} {out : TL} (h : MkI W p M all cs left out) (deep : Int) (op : Bool) (hdeep : deep ≤ 1) (hk : hdB cs % 4 = 1) (hv : hdB cs / 7 % 2 = 0) (hlen : out.length + 1 ≤ 1000000) :
    Calls Tryz.prog 27 #[mpt p, .int .i64 deep, .bool op] W (ExP W p M all left out ((.bool false, tlB cs)) ([(3, [102, 97, 108, 115, 101])])) := by
  have qk : (hdB cs : Int) % 4 = 1 := by omega
  have qv : (hdB cs : Int) / 7 % 2 = 0 := by omega
  have hp := h.p_lt
  have hM := Lib.hid (MidM.start h (.int .i64 0) (.int .i64 0) (.int .i64 0) (.string ⟨#[]⟩) (.slice none 0 0))
  have C := Lib.hid (byteM (h.al (.cells #[.int .i64 0, .int .i64 0, .int .i64 0, .string ⟨#[]⟩, .slice none 0 0] 67)))
  have h256 := h.byt.hd
  clear h
  generalize hb : hdB cs = b at *
  go_enter Tryz.func27, Tryz.ntmps27
  try simp only [List.append_eq, List.cons_append, List.nil_append]
  go_wp2_with fail
  refine C.out.mono ?_
  rintro E w1 ⟨rfl, hI, hF⟩
  have HM := Lib.hid (hM.out.step hI hF)
  clear hI hF C hM
  have hp1 := HM.out.p_lt
  have HMa := Lib.hid (HM.out.al (.cells #[.string ⟨#[102, 97, 108, 115, 101]⟩, .string ⟨#[116, 114, 117, 101]⟩] 9))
  go_wp2_with fail
  have hS : StrL ((w1.alloc (.cells #[.string ⟨#[102, 97, 108, 115, 101]⟩, .string ⟨#[116, 114, 117, 101]⟩] 9)).alloc (.cells #[.string ⟨#[102, 97, 108, 115, 101]⟩] 9)) ((w1.alloc (.cells #[.string ⟨#[102, 97, 108, 115, 101]⟩, .string ⟨#[116, 114, 117, 101]⟩] 9)).alloc (.cells #[.string ⟨#[102, 97, 108, 115, 101]⟩] 9)).heap.size (.slice (some ⟨(w1.alloc (.cells #[.string ⟨#[102, 97, 108, 115, 101]⟩, .string ⟨#[116, 114, 117, 101]⟩] 9)).heap.size, 0, none⟩) 1 1) [[102, 97, 108, 115, 101]] := strL_new (w1.alloc (.cells #[.string ⟨#[102, 97, 108, 115, 101]⟩, .string ⟨#[116, 114, 117, 101]⟩] 9)) [[102, 97, 108, 115, 101]] 9 rfl
  have D := addM (HMa.out.mki.al (.cells #[.string ⟨#[102, 97, 108, 115, 101]⟩] 9)) hS (by simp) (by simpa using hlen)
  rw [show List.map wtk [[102, 97, 108, 115, 101]] = [(3, [102, 97, 108, 115, 101])] by decide +kernel] at D
  rw [S3.sz1 w1] at D
  have D := Lib.hid D
  have HX := Lib.hid (HMa.out.al (.cells #[.string ⟨#[102, 97, 108, 115, 101]⟩] 9))
  clear hS
  refine D.out.mono ?_
  rintro E w2 ⟨rfl, hI, hF⟩
  have HM2 := Lib.hid (HX.out.step hI hF)
  clear hI hF HM HX D HMa
  obtain ⟨z0, z1, z2, z3, z4, r0, r1, r2, r3, r4, y0, y1, y2, y3, y4⟩ := HM2.out.r5.facts
  have hq1 := HM2.out.r5.lt
  have HD := Lib.hid ((HM2.out).done (t := .bool false) (S3.ER.nil none 0) (.int .i64 2) (.int .i64 0) (.int .i64 0) (.string ⟨#[]⟩) (.slice none 0 0))
  go_wp2_with fail
  exact bodyPost_ret (v := S3.eV (Tr.ex (.bool false)) (.slice none 0 0)) (by simp [results, Tryz.results27, go_sem, Tr.ex, r0, r1, r2, r3, r4]) rfl HD.out
set_option maxRecDepth 100000 in
set_option maxHeartbeats 8000000 in
theorem exprM_bool0t {W : World} {p M : Nat} {all cs : List Nat} {left : Int} {out : TL} (h : MkI W p M all cs left out) (deep : Int) (op : Bool) (hdeep : deep ≤ 1) (hk : hdB cs % 4 = 1) (hv : hdB cs / 7 % 2 = 1) (hlen : out.length + 1 ≤ 1000000) :
    Calls Tryz.prog 27 #[mpt p, .int .i64 deep, .bool op] W (ExP W p M all left out ((.bool true, tlB cs)) ([(3, [116, 114, 117, 101])])) := by
  have qk : (hdB cs : Int) % 4 = 1 := by omega
  have qv : (hdB cs : Int) / 7 % 2 = 1 := by omega
  have hp := h.p_lt
  have hM := Lib.hid (MidM.start h (.int .i64 0) (.int .i64 0) (.int .i64 0) (.string ⟨#[]⟩) (.slice none 0 0))
  have C := Lib.hid (byteM (h.al (.cells #[.int .i64 0, .int .i64 0, .int .i64 0, .string ⟨#[]⟩, .slice none 0 0] 67)))
  have h256 := h.byt.hd
  clear h
  generalize hb : hdB cs = b at *
  go_enter Tryz.func27, Tryz.ntmps27
  try simp only [List.append_eq, List.cons_append, List.nil_append]
  go_wp2_with fail
  refine C.out.mono ?_
  rintro E w1 ⟨rfl, hI, hF⟩
  have HM := Lib.hid (hM.out.step hI hF)
  clear hI hF C hM
  have hp1 := HM.out.p_lt
  have HMa := Lib.hid (HM.out.al (.cells #[.string ⟨#[102, 97, 108, 115, 101]⟩, .string ⟨#[116, 114, 117, 101]⟩] 9))
  go_wp2_with fail
  have hS : StrL ((w1.alloc (.cells #[.string ⟨#[102, 97, 108, 115, 101]⟩, .string ⟨#[116, 114, 117, 101]⟩] 9)).alloc (.cells #[.string ⟨#[116, 114, 117, 101]⟩] 9)) ((w1.alloc (.cells #[.string ⟨#[102, 97, 108, 115, 101]⟩, .string ⟨#[116, 114, 117, 101]⟩] 9)).alloc (.cells #[.string ⟨#[116, 114, 117, 101]⟩] 9)).heap.size (.slice (some ⟨(w1.alloc (.cells #[.string ⟨#[102, 97, 108, 115, 101]⟩, .string ⟨#[116, 114, 117, 101]⟩] 9)).heap.size, 0, none⟩) 1 1) [[116, 114, 117, 101]] := strL_new (w1.alloc (.cells #[.string ⟨#[102, 97, 108, 115, 101]⟩, .string ⟨#[116, 114, 117, 101]⟩] 9)) [[116, 114, 117, 101]] 9 rfl
  have D := addM (HMa.out.mki.al (.cells #[.string ⟨#[116, 114, 117, 101]⟩] 9)) hS (by simp) (by simpa using hlen)
  rw [show List.map wtk [[116, 114, 117, 101]] = [(3, [116, 114, 117, 101])] by decide +kernel] at D
  rw [S3.sz1 w1] at D
  have D := Lib.hid D
  have HX := Lib.hid (HMa.out.al (.cells #[.string ⟨#[116, 114, 117, 101]⟩] 9))
  clear hS
  refine D.out.mono ?_
  rintro E w2 ⟨rfl, hI, hF⟩
  have HM2 := Lib.hid (HX.out.step hI hF)
  clear hI hF HM HX D HMa
  obtain ⟨z0, z1, z2, z3, z4, r0, r1, r2, r3, r4, y0, y1, y2, y3, y4⟩ := HM2.out.r5.facts
  have hq1 := HM2.out.r5.lt
  have HD := Lib.hid ((HM2.out).done (t := .bool true) (S3.ER.nil none 0) (.int .i64 2) (.int .i64 0) (.int .i64 1) (.string ⟨#[]⟩) (.slice none 0 0))
  go_wp2_with fail
  exact bodyPost_ret (v := S3.eV (Tr.ex (.bool true)) (.slice none 0 0)) (by simp [results, Tryz.results27, go_sem, Tr.ex, r0, r1, r2, r3, r4]) rfl HD.out
set_option maxRecDepth 100000 in
set_option maxHeartbeats 8000000 in
theorem exprM_bool1f {W : World} {p M : Nat} {all cs : List Nat} {left : Int} {out : TL} (h : MkI W p M all cs left out) (deep : Int) (op : Bool) (hdeep : ¬ deep ≤ 1) (hk : hdB cs % 7 = 1) (hv : hdB cs / 7 % 2 = 0) (hlen : out.length + 1 ≤ 1000000) :
    Calls Tryz.prog 27 #[mpt p, .int .i64 deep, .bool op] W (ExP W p M all left out ((.bool false, tlB cs)) ([(3, [102, 97, 108, 115, 101])])) := by
  have qk : (hdB cs : Int) % 7 = 1 := by omega
  have qv : (hdB cs : Int) / 7 % 2 = 0 := by omega
  have hp := h.p_lt
  have hM := Lib.hid (MidM.start h (.int .i64 0) (.int .i64 0) (.int .i64 0) (.string ⟨#[]⟩) (.slice none 0 0))
  have C := Lib.hid (byteM (h.al (.cells #[.int .i64 0, .int .i64 0, .int .i64 0, .string ⟨#[]⟩, .slice none 0 0] 67)))
  have h256 := h.byt.hd
  clear h
  generalize hb : hdB cs = b at *
  go_enter Tryz.func27, Tryz.ntmps27
  try simp only [List.append_eq, List.cons_append, List.nil_append]
  go_wp2_with fail
  refine C.out.mono ?_
  rintro E w1 ⟨rfl, hI, hF⟩
  have HM := Lib.hid (hM.out.step hI hF)
  clear hI hF C hM
  have hp1 := HM.out.p_lt
  have HMa := Lib.hid (HM.out.al (.cells #[.string ⟨#[102, 97, 108, 115, 101]⟩, .string ⟨#[116, 114, 117, 101]⟩] 9))
  go_wp2_with fail
  have hS : StrL ((w1.alloc (.cells #[.string ⟨#[102, 97, 108, 115, 101]⟩, .string ⟨#[116, 114, 117, 101]⟩] 9)).alloc (.cells #[.string ⟨#[102, 97, 108, 115, 101]⟩] 9)) ((w1.alloc (.cells #[.string ⟨#[102, 97, 108, 115, 101]⟩, .string ⟨#[116, 114, 117, 101]⟩] 9)).alloc (.cells #[.string ⟨#[102, 97, 108, 115, 101]⟩] 9)).heap.size (.slice (some ⟨(w1.alloc (.cells #[.string ⟨#[102, 97, 108, 115, 101]⟩, .string ⟨#[116, 114, 117, 101]⟩] 9)).heap.size, 0, none⟩) 1 1) [[102, 97, 108, 115, 101]] := strL_new (w1.alloc (.cells #[.string ⟨#[102, 97, 108, 115, 101]⟩, .string ⟨#[116, 114, 117, 101]⟩] 9)) [[102, 97, 108, 115, 101]] 9 rfl
  have D := addM (HMa.out.mki.al (.cells #[.string ⟨#[102, 97, 108, 115, 101]⟩] 9)) hS (by simp) (by simpa using hlen)
  rw [show List.map wtk [[102, 97, 108, 115, 101]] = [(3, [102, 97, 108, 115, 101])] by decide +kernel] at D
  rw [S3.sz1 w1] at D
  have D := Lib.hid D
  have HX := Lib.hid (HMa.out.al (.cells #[.string ⟨#[102, 97, 108, 115, 101]⟩] 9))
  clear hS
  refine D.out.mono ?_
  rintro E w2 ⟨rfl, hI, hF⟩
  have HM2 := Lib.hid (HX.out.step hI hF)
  clear hI hF HM HX D HMa
  obtain ⟨z0, z1, z2, z3, z4, r0, r1, r2, r3, r4, y0, y1, y2, y3, y4⟩ := HM2.out.r5.facts
  have hq1 := HM2.out.r5.lt
  have HD := Lib.hid ((HM2.out).done (t := .bool false) (S3.ER.nil none 0) (.int .i64 2) (.int .i64 0) (.int .i64 0) (.string ⟨#[]⟩) (.slice none 0 0))
  go_wp2_with fail
  exact bodyPost_ret (v := S3.eV (Tr.ex (.bool false)) (.slice none 0 0)) (by simp [results, Tryz.results27, go_sem, Tr.ex, r0, r1, r2, r3, r4]) rfl HD.out
set_option maxRecDepth 100000 in
set_option maxHeartbeats 8000000 in
theorem exprM_bool1t {W : World} {p M : Nat} {all cs : List Nat} {left : Int} {out : TL} (h : MkI W p M all cs left out) (deep : Int) (op : Bool) (hdeep : ¬ deep ≤ 1) (hk : hdB cs % 7 = 1) (hv : hdB cs / 7 % 2 = 1) (hlen : out.length + 1 ≤ 1000000) :
    Calls Tryz.prog 27 #[mpt p, .int .i64 deep, .bool op] W (ExP W p M all left out ((.bool true, tlB cs)) ([(3, [116, 114, 117, 101])])) := by
  have qk : (hdB cs : Int) % 7 = 1 := by omega
  have qv : (hdB cs : Int) / 7 % 2 = 1 := by omega
  have hp := h.p_lt
  have hM := Lib.hid (MidM.start h (.int .i64 0) (.int .i64 0) (.int .i64 0) (.string ⟨#[]⟩) (.slice none 0 0))
  have C := Lib.hid (byteM (h.al (.cells #[.int .i64 0, .int .i64 0, .int .i64 0, .string ⟨#[]⟩, .slice none 0 0] 67)))
  have h256 := h.byt.hd
  clear h
  generalize hb : hdB cs = b at *
  go_enter Tryz.func27, Tryz.ntmps27
  try simp only [List.append_eq, List.cons_append, List.nil_append]
  go_wp2_with fail
  refine C.out.mono ?_
  rintro E w1 ⟨rfl, hI, hF⟩
  have HM := Lib.hid (hM.out.step hI hF)
  clear hI hF C hM
  have hp1 := HM.out.p_lt
  have HMa := Lib.hid (HM.out.al (.cells #[.string ⟨#[102, 97, 108, 115, 101]⟩, .string ⟨#[116, 114, 117, 101]⟩] 9))
  go_wp2_with fail
  have hS : StrL ((w1.alloc (.cells #[.string ⟨#[102, 97, 108, 115, 101]⟩, .string ⟨#[116, 114, 117, 101]⟩] 9)).alloc (.cells #[.string ⟨#[116, 114, 117, 101]⟩] 9)) ((w1.alloc (.cells #[.string ⟨#[102, 97, 108, 115, 101]⟩, .string ⟨#[116, 114, 117, 101]⟩] 9)).alloc (.cells #[.string ⟨#[116, 114, 117, 101]⟩] 9)).heap.size (.slice (some ⟨(w1.alloc (.cells #[.string ⟨#[102, 97, 108, 115, 101]⟩, .string ⟨#[116, 114, 117, 101]⟩] 9)).heap.size, 0, none⟩) 1 1) [[116, 114, 117, 101]] := strL_new (w1.alloc (.cells #[.string ⟨#[102, 97, 108, 115, 101]⟩, .string ⟨#[116, 114, 117, 101]⟩] 9)) [[116, 114, 117, 101]] 9 rfl
  have D := addM (HMa.out.mki.al (.cells #[.string ⟨#[116, 114, 117, 101]⟩] 9)) hS (by simp) (by simpa using hlen)
  rw [show List.map wtk [[116, 114, 117, 101]] = [(3, [116, 114, 117, 101])] by decide +kernel] at D
  rw [S3.sz1 w1] at D
  have D := Lib.hid D
  have HX := Lib.hid (HMa.out.al (.cells #[.string ⟨#[116, 114, 117, 101]⟩] 9))
  clear hS
  refine D.out.mono ?_
  rintro E w2 ⟨rfl, hI, hF⟩
  have HM2 := Lib.hid (HX.out.step hI hF)
  clear hI hF HM HX D HMa
  obtain ⟨z0, z1, z2, z3, z4, r0, r1, r2, r3, r4, y0, y1, y2, y3, y4⟩ := HM2.out.r5.facts
  have hq1 := HM2.out.r5.lt
  have HD := Lib.hid ((HM2.out).done (t := .bool true) (S3.ER.nil none 0) (.int .i64 2) (.int .i64 0) (.int .i64 1) (.string ⟨#[]⟩) (.slice none 0 0))
  go_wp2_with fail
  exact bodyPost_ret (v := S3.eV (Tr.ex (.bool true)) (.slice none 0 0)) (by simp [results, Tryz.results27, go_sem, Tr.ex, r0, r1, r2, r3, r4]) rfl HD.out
end Go.Proofs.YtipepljmfgjbpaaGreatDoor.E6

namespace Go.Proofs.YtipepljmfgjbpaaGreatDoor.E6
open Go Go.RowKit Go.Proofs.YtipepljmfgjbpaaGreatDoor Go.Proofs.YtipepljmfgjbpaaGreatDoor.E5

set_option maxRecDepth 100000 in
set_option maxHeartbeats 8000000 in
theorem exprM_idx {W : World} {p M : Nat} {all cs : List Nat} {left : Int} {out : TL} (h : MkI W p M all cs left out) (deep : Int) (op : Bool) (n : Nat) (hdeep : ¬ deep ≤ 1) (hdm : deep ≤ 100) (hk : hdB cs % 7 = 4) (hE : ExC n (deep - 1) false) (hlen : out.length + ((mkT n (tlB (tlB cs))).1.tk.length + 3) ≤ 1000000) :
    Calls Tryz.prog 27 #[mpt p, .int .i64 deep, .bool op] W (ExP W p M all left out ((.idx (nmW (hdB (tlB cs))) (mkT n (tlB (tlB cs))).1, (mkT n (tlB (tlB cs))).2)) ((1, nmW (hdB (tlB cs))) :: (4, [91]) :: ((mkT n (tlB (tlB cs))).1.tk ++ [(4, [93])]))) := by
  have qk : (hdB cs : Int) % 7 = 4 := by omega
  have hdd : IntKind.i64.wrap (deep - 1) = deep - 1 := IntWalk.i64_in _ (by omega)
  have hok := tr_okE6 (mkT_ok n _ h.byt.tl.tl).1
  have hp := h.p_lt
  have hM := Lib.hid (MidM.start h (.int .i64 0) (.int .i64 0) (.int .i64 0) (.string ⟨#[]⟩) (.slice none 0 0))
  have C := Lib.hid (byteM (h.al (.cells #[.int .i64 0, .int .i64 0, .int .i64 0, .string ⟨#[]⟩, .slice none 0 0] 67)))
  have h256 := h.byt.hd
  clear h
  have HE := Lib.hid hE
  clear hE
  generalize hb : hdB cs = b at *
  go_enter Tryz.func27, Tryz.ntmps27
  try simp only [List.append_eq, List.cons_append, List.nil_append]
  go_wp2_with fail
  refine C.out.mono ?_
  rintro E w1 ⟨rfl, hI, hF⟩
  have HM := Lib.hid (hM.out.step hI hF)
  clear hI hF C hM
  have hp1 := HM.out.p_lt
  go_wp2_with fail
  have N := nameM HM.out.mki (by omega)
  generalize hx : nmW (hdB (tlB cs)) = x at *
  have N := Lib.hid N
  refine N.out.mono ?_
  rintro E w3 ⟨rfl, hI, hF⟩
  have HM3 := Lib.hid (HM.out.step hI hF)
  clear hI hF HM N
  have HB := Lib.hid (BoxM.new HM3.out (n := W.heap.size + 1) HM3.out.r5.lt (.int .i64 6) (.int .i64 0) (.int .i64 0) (.string (B x)) (.slice none 0 0))
  have HM4 := Lib.hid (HM3.out.al (.cells #[.int .i64 6, .int .i64 0, .int .i64 0, .string (B x), .slice none 0 0] 67))
  have hp4 := HM4.out.p_lt
  have hz4 := S3.sz1 w3 (.cells #[.int .i64 6, .int .i64 0, .int .i64 0, .string (B x), .slice none 0 0] 67)
  go_wp2_with fail
  generalize hq : w3.heap.size = q2 at *
  generalize w3.alloc (.cells #[.int .i64 6, .int .i64 0, .int .i64 0, .string (B x), .slice none 0 0] 67) = w4 at *
  have hS : StrL (w4.alloc (.cells #[.string ⟨#[91]⟩] 9)) (w4.alloc (.cells #[.string ⟨#[91]⟩] 9)).heap.size (.slice (some ⟨w4.heap.size, 0, none⟩) 1 1) [[91]] := strL_new w4 [[91]] 9 rfl
  have D := addM (HM4.out.mki.al (.cells #[.string ⟨#[91]⟩] 9)) hS (by simp) (by simp; omega)
  rw [show List.map wtk [[91]] = [(4, [91])] by decide +kernel] at D
  rw [hz4] at D
  have D := Lib.hid D
  have HX := Lib.hid (HM4.out.al (.cells #[.string ⟨#[91]⟩] 9))
  clear hS
  refine D.out.mono ?_
  rintro E w5 ⟨rfl, hI, hF⟩
  have HM5 := Lib.hid (HX.out.step hI hF)
  have HB5 := Lib.hid ((HB.out.step (.al w4 _ hp4)).step hF)
  clear hI hF HM4 HX D HB HM3
  have hX := HE.out w5 p M all _ left _ HM5.out.mki (by simp [tokT, parT]; omega)
  generalize hr : mkT n (tlB (tlB cs)) = r at *
  have HXX := Lib.hid hX
  clear hX
  have g4 := HB5.out.facts.2.2.2.2
  have gq := HB5.out.pt.2.1
  go_wp2_with fail
  refine HXX.out.mono ?_
  rintro E w6 ⟨A, k, c, rfl, hEr, hI, hF⟩
  have hM6 := HM5.out.step hI hF
  have hB6 := HB5.out.step hF
  obtain ⟨i1, i2, i3, i4⟩ := erM_one hM6 hB6 hEr gq hok
  have x4 := hB6.froz (i := 4)
  have g4 := hB6.facts.2.2.2.2
  have gq6 := hB6.pt.2.1
  have HM7 := Lib.hid i1
  have HB7 := Lib.hid i2
  have HE7 := Lib.hid i3
  clear hI hF hEr hM6 hB6 HM5 HB5 HXX i1 i2 i3
  go_wp2_with fail
  generalize (w6.setCell ⟨q2, 4, none⟩ (.slice (some ⟨w6.heap.size, 0, none⟩) 1 1)).alloc (S3.eO r.1.ex (.slice A k c)) = w7 at *
  have hS : StrL (w7.alloc (.cells #[.string ⟨#[93]⟩] 9)) (w7.alloc (.cells #[.string ⟨#[93]⟩] 9)).heap.size (.slice (some ⟨w7.heap.size, 0, none⟩) 1 1) [[93]] := strL_new w7 [[93]] 9 rfl
  have D := addM (HM7.out.mki.al (.cells #[.string ⟨#[93]⟩] 9)) hS (by simp) (by simp [tokT, parT]; omega)
  rw [show List.map wtk [[93]] = [(4, [93])] by decide +kernel] at D
  rw [i4] at D
  have D := Lib.hid D
  have HX := Lib.hid (HM7.out.al (.cells #[.string ⟨#[93]⟩] 9))
  clear hS
  refine D.out.mono ?_
  rintro E w8 ⟨rfl, hI, hF⟩
  have HM8 := Lib.hid (HX.out.step hI hF)
  have hp7 := HM7.out.p_lt
  have HB8 := Lib.hid ((HB7.out.step (.al w7 _ hp7)).step hF)
  have HE8 := Lib.hid (er_frm' (er_frm' HE7.out (.al w7 _ hp7)) hF)
  clear hI hF HX D HM7 HB7 HE7
  obtain ⟨e0, e1, e2, e3, e4⟩ := HB8.out.facts
  have hq8 := HB8.out.pt.2.1
  obtain ⟨z0, z1, z2, z3, z4, r0, r1, r2, r3, r4, y0, y1, y2, y3, y4⟩ := HM8.out.r5.facts
  have hq1 := HM8.out.r5.lt
  have HD := Lib.hid ((HM8.out.cast (out' := out ++ ((1, x) :: (4, [91]) :: (r.1.tk ++ [(4, [93])]))) (by first | rfl | simp only [tokT, parT, Bool.false_and, Bool.false_eq_true, if_false, List.append_assoc, List.cons_append, List.nil_append] | simp only [List.append_assoc, List.cons_append, List.nil_append])).done (t := .idx x r.1) (HE8.out) (.int .i64 6) (.int .i64 0) (.int .i64 0) (.string (B x)) (.slice (some ⟨w6.heap.size, 0, none⟩) 1 1))
  go_wp2_with fail
  exact bodyPost_ret (v := S3.eV (Tr.ex (.idx x r.1)) (.slice (some ⟨w6.heap.size, 0, none⟩) 1 1)) (by simp [results, Tryz.results27, go_sem, Tr.ex, r0, r1, r2, r3, r4]) rfl HD.out
end Go.Proofs.YtipepljmfgjbpaaGreatDoor.E6

namespace Go.Proofs.YtipepljmfgjbpaaGreatDoor.E6
open Go Go.RowKit Go.Proofs.YtipepljmfgjbpaaGreatDoor Go.Proofs.YtipepljmfgjbpaaGreatDoor.E5

set_option maxRecDepth 100000 in
set_option maxHeartbeats 8000000 in
theorem exprM_un0 {W : World} {p M : Nat} {all cs : List Nat} {left : Int} {out : TL} (h : MkI W p M all cs left out) (deep : Int) (op : Bool) (n : Nat) (hop : op = false) (hdeep : ¬ deep ≤ 1) (hdm : deep ≤ 100) (hk : hdB cs % 7 = 5) (hv : hdB cs / 7 % 2 = 0) (hE : ExC n (deep - 1) true) (hlen : out.length + ((tokT true (mkT n (tlB cs)).1).length + 1) ≤ 1000000) :
    Calls Tryz.prog 27 #[mpt p, .int .i64 deep, .bool op] W (ExP W p M all left out ((.un 14 (mkT n (tlB cs)).1, (mkT n (tlB cs)).2)) ((4, [45]) :: tokT true (mkT n (tlB cs)).1)) := by
  have qk : (hdB cs : Int) % 7 = 5 := by omega
  have qv : (hdB cs : Int) / 7 % 2 = 0 := by omega
  have hdd : IntKind.i64.wrap (deep - 1) = deep - 1 := IntWalk.i64_in _ (by omega)
  have hok := tr_okE6 (mkT_ok n _ h.byt.tl).1
  subst hop
  have hp := h.p_lt
  have hM := Lib.hid (MidM.start h (.int .i64 0) (.int .i64 0) (.int .i64 0) (.string ⟨#[]⟩) (.slice none 0 0))
  have C := Lib.hid (byteM (h.al (.cells #[.int .i64 0, .int .i64 0, .int .i64 0, .string ⟨#[]⟩, .slice none 0 0] 67)))
  have h256 := h.byt.hd
  clear h
  have HE := Lib.hid hE
  clear hE
  generalize hb : hdB cs = b at *
  go_enter Tryz.func27, Tryz.ntmps27
  try simp only [List.append_eq, List.cons_append, List.nil_append]
  go_wp2_with fail
  refine C.out.mono ?_
  rintro E w1 ⟨rfl, hI, hF⟩
  have HM := Lib.hid (hM.out.step hI hF)
  clear hI hF C hM
  have hp1 := HM.out.p_lt
  go_wp2_with fail
  have HB := Lib.hid (BoxM.new HM.out (n := W.heap.size + 1) HM.out.r5.lt (.int .i64 4) (.int .i64 14) (.int .i64 0) (.string ⟨#[]⟩) (.slice none 0 0))
  have HM4 := Lib.hid (HM.out.al (.cells #[.int .i64 4, .int .i64 14, .int .i64 0, .string ⟨#[]⟩, .slice none 0 0] 67))
  have hp4 := HM4.out.p_lt
  have hz4 := S3.sz1 w1 (.cells #[.int .i64 4, .int .i64 14, .int .i64 0, .string ⟨#[]⟩, .slice none 0 0] 67)
  generalize hq : w1.heap.size = q2 at *
  generalize w1.alloc (.cells #[.int .i64 4, .int .i64 14, .int .i64 0, .string ⟨#[]⟩, .slice none 0 0] 67) = w4 at *
  have HMa := Lib.hid (HM4.out.al (.cells #[.string ⟨#[45]⟩, .string ⟨#[33]⟩] 9))
  have hS : StrL ((w4.alloc (.cells #[.string ⟨#[45]⟩, .string ⟨#[33]⟩] 9)).alloc (.cells #[.string ⟨#[45]⟩] 9)) ((w4.alloc (.cells #[.string ⟨#[45]⟩, .string ⟨#[33]⟩] 9)).alloc (.cells #[.string ⟨#[45]⟩] 9)).heap.size (.slice (some ⟨(w4.alloc (.cells #[.string ⟨#[45]⟩, .string ⟨#[33]⟩] 9)).heap.size, 0, none⟩) 1 1) [[45]] := strL_new (w4.alloc (.cells #[.string ⟨#[45]⟩, .string ⟨#[33]⟩] 9)) [[45]] 9 rfl
  have D := addM (HMa.out.mki.al (.cells #[.string ⟨#[45]⟩] 9)) hS (by simp) (by simp; omega)
  rw [show List.map wtk [[45]] = [(4, [45])] by decide +kernel] at D
  rw [S3.sz1 w4, hz4] at D
  have D := Lib.hid D
  have HX := Lib.hid (HMa.out.al (.cells #[.string ⟨#[45]⟩] 9))
  clear hS
  refine D.out.mono ?_
  rintro E w5 ⟨rfl, hI, hF⟩
  have HM5 := Lib.hid (HX.out.step hI hF)
  have HB5 := Lib.hid (((HB.out.step (.al w4 (.cells #[.string ⟨#[45]⟩, .string ⟨#[33]⟩] 9) hp4)).step (.al _ _ HMa.out.p_lt)).step hF)
  clear hI hF HM4 HX D HB HMa HM
  have hX := HE.out w5 p M all _ left _ HM5.out.mki (by simp; omega)
  generalize hr : mkT n (tlB cs) = r at *
  have HXX := Lib.hid hX
  clear hX
  have g4 := HB5.out.facts.2.2.2.2
  have gq := HB5.out.pt.2.1
  go_wp2_with fail
  refine HXX.out.mono ?_
  rintro E w6 ⟨A, k, c, rfl, hEr, hI, hF⟩
  have hM6 := HM5.out.step hI hF
  have hB6 := HB5.out.step hF
  obtain ⟨i1, i2, i3, i4⟩ := erM_one hM6 hB6 hEr gq hok
  have x4 := hB6.froz (i := 4)
  have g4 := hB6.facts.2.2.2.2
  have gq6 := hB6.pt.2.1
  have HM7 := Lib.hid i1
  have HB7 := Lib.hid i2
  have HE7 := Lib.hid i3
  clear hI hF hEr hM6 hB6 HM5 HB5 HXX i1 i2 i3
  obtain ⟨e0, e1, e2, e3, e4⟩ := HB7.out.facts
  have hq8 := HB7.out.pt.2.1
  obtain ⟨z0, z1, z2, z3, z4, r0, r1, r2, r3, r4, y0, y1, y2, y3, y4⟩ := HM7.out.r5.facts
  have hq1 := HM7.out.r5.lt
  have HD := Lib.hid ((HM7.out.cast (out' := out ++ ((4, [45]) :: tokT true r.1)) (by first | rfl | simp only [List.append_assoc, List.cons_append, List.nil_append])).done (t := .un 14 r.1) (HE7.out) (.int .i64 4) (.int .i64 14) (.int .i64 0) (.string ⟨#[]⟩) (.slice (some ⟨w6.heap.size, 0, none⟩) 1 1))
  go_wp2_with fail
  exact bodyPost_ret (v := S3.eV (Tr.ex (.un 14 r.1)) (.slice (some ⟨w6.heap.size, 0, none⟩) 1 1)) (by simp [results, Tryz.results27, go_sem, Tr.ex, r0, r1, r2, r3, r4]) rfl HD.out
set_option maxRecDepth 100000 in
set_option maxHeartbeats 8000000 in
theorem exprM_un1 {W : World} {p M : Nat} {all cs : List Nat} {left : Int} {out : TL} (h : MkI W p M all cs left out) (deep : Int) (op : Bool) (n : Nat) (hop : op = false) (hdeep : ¬ deep ≤ 1) (hdm : deep ≤ 100) (hk : hdB cs % 7 = 5) (hv : hdB cs / 7 % 2 = 1) (hE : ExC n (deep - 1) true) (hlen : out.length + ((tokT true (mkT n (tlB cs)).1).length + 1) ≤ 1000000) :
    Calls Tryz.prog 27 #[mpt p, .int .i64 deep, .bool op] W (ExP W p M all left out ((.un 15 (mkT n (tlB cs)).1, (mkT n (tlB cs)).2)) ((4, [33]) :: tokT true (mkT n (tlB cs)).1)) := by
  have qk : (hdB cs : Int) % 7 = 5 := by omega
  have qv : (hdB cs : Int) / 7 % 2 = 1 := by omega
  have hdd : IntKind.i64.wrap (deep - 1) = deep - 1 := IntWalk.i64_in _ (by omega)
  have hok := tr_okE6 (mkT_ok n _ h.byt.tl).1
  subst hop
  have hp := h.p_lt
  have hM := Lib.hid (MidM.start h (.int .i64 0) (.int .i64 0) (.int .i64 0) (.string ⟨#[]⟩) (.slice none 0 0))
  have C := Lib.hid (byteM (h.al (.cells #[.int .i64 0, .int .i64 0, .int .i64 0, .string ⟨#[]⟩, .slice none 0 0] 67)))
  have h256 := h.byt.hd
  clear h
  have HE := Lib.hid hE
  clear hE
  generalize hb : hdB cs = b at *
  go_enter Tryz.func27, Tryz.ntmps27
  try simp only [List.append_eq, List.cons_append, List.nil_append]
  go_wp2_with fail
  refine C.out.mono ?_
  rintro E w1 ⟨rfl, hI, hF⟩
  have HM := Lib.hid (hM.out.step hI hF)
  clear hI hF C hM
  have hp1 := HM.out.p_lt
  go_wp2_with fail
  have HB := Lib.hid (BoxM.new HM.out (n := W.heap.size + 1) HM.out.r5.lt (.int .i64 4) (.int .i64 15) (.int .i64 0) (.string ⟨#[]⟩) (.slice none 0 0))
  have HM4 := Lib.hid (HM.out.al (.cells #[.int .i64 4, .int .i64 15, .int .i64 0, .string ⟨#[]⟩, .slice none 0 0] 67))
  have hp4 := HM4.out.p_lt
  have hz4 := S3.sz1 w1 (.cells #[.int .i64 4, .int .i64 15, .int .i64 0, .string ⟨#[]⟩, .slice none 0 0] 67)
  generalize hq : w1.heap.size = q2 at *
  generalize w1.alloc (.cells #[.int .i64 4, .int .i64 15, .int .i64 0, .string ⟨#[]⟩, .slice none 0 0] 67) = w4 at *
  have HMa := Lib.hid (HM4.out.al (.cells #[.string ⟨#[45]⟩, .string ⟨#[33]⟩] 9))
  have hS : StrL ((w4.alloc (.cells #[.string ⟨#[45]⟩, .string ⟨#[33]⟩] 9)).alloc (.cells #[.string ⟨#[33]⟩] 9)) ((w4.alloc (.cells #[.string ⟨#[45]⟩, .string ⟨#[33]⟩] 9)).alloc (.cells #[.string ⟨#[33]⟩] 9)).heap.size (.slice (some ⟨(w4.alloc (.cells #[.string ⟨#[45]⟩, .string ⟨#[33]⟩] 9)).heap.size, 0, none⟩) 1 1) [[33]] := strL_new (w4.alloc (.cells #[.string ⟨#[45]⟩, .string ⟨#[33]⟩] 9)) [[33]] 9 rfl
  have D := addM (HMa.out.mki.al (.cells #[.string ⟨#[33]⟩] 9)) hS (by simp) (by simp; omega)
  rw [show List.map wtk [[33]] = [(4, [33])] by decide +kernel] at D
  rw [S3.sz1 w4, hz4] at D
  have D := Lib.hid D
  have HX := Lib.hid (HMa.out.al (.cells #[.string ⟨#[33]⟩] 9))
  clear hS
  refine D.out.mono ?_
  rintro E w5 ⟨rfl, hI, hF⟩
  have HM5 := Lib.hid (HX.out.step hI hF)
  have HB5 := Lib.hid (((HB.out.step (.al w4 (.cells #[.string ⟨#[45]⟩, .string ⟨#[33]⟩] 9) hp4)).step (.al _ _ HMa.out.p_lt)).step hF)
  clear hI hF HM4 HX D HB HMa HM
  have hX := HE.out w5 p M all _ left _ HM5.out.mki (by simp; omega)
  generalize hr : mkT n (tlB cs) = r at *
  have HXX := Lib.hid hX
  clear hX
  have g4 := HB5.out.facts.2.2.2.2
  have gq := HB5.out.pt.2.1
  go_wp2_with fail
  refine HXX.out.mono ?_
  rintro E w6 ⟨A, k, c, rfl, hEr, hI, hF⟩
  have hM6 := HM5.out.step hI hF
  have hB6 := HB5.out.step hF
  obtain ⟨i1, i2, i3, i4⟩ := erM_one hM6 hB6 hEr gq hok
  have x4 := hB6.froz (i := 4)
  have g4 := hB6.facts.2.2.2.2
  have gq6 := hB6.pt.2.1
  have HM7 := Lib.hid i1
  have HB7 := Lib.hid i2
  have HE7 := Lib.hid i3
  clear hI hF hEr hM6 hB6 HM5 HB5 HXX i1 i2 i3
  obtain ⟨e0, e1, e2, e3, e4⟩ := HB7.out.facts
  have hq8 := HB7.out.pt.2.1
  obtain ⟨z0, z1, z2, z3, z4, r0, r1, r2, r3, r4, y0, y1, y2, y3, y4⟩ := HM7.out.r5.facts
  have hq1 := HM7.out.r5.lt
  have HD := Lib.hid ((HM7.out.cast (out' := out ++ ((4, [33]) :: tokT true r.1)) (by first | rfl | simp only [List.append_assoc, List.cons_append, List.nil_append])).done (t := .un 15 r.1) (HE7.out) (.int .i64 4) (.int .i64 15) (.int .i64 0) (.string ⟨#[]⟩) (.slice (some ⟨w6.heap.size, 0, none⟩) 1 1))
  go_wp2_with fail
  exact bodyPost_ret (v := S3.eV (Tr.ex (.un 15 r.1)) (.slice (some ⟨w6.heap.size, 0, none⟩) 1 1)) (by simp [results, Tryz.results27, go_sem, Tr.ex, r0, r1, r2, r3, r4]) rfl HD.out
set_option maxRecDepth 100000 in
set_option maxHeartbeats 8000000 in
theorem exprM_un0p {W : World} {p M : Nat} {all cs : List Nat} {left : Int} {out : TL} (h : MkI W p M all cs left out) (deep : Int) (op : Bool) (n : Nat) (hop : op = true) (hdeep : ¬ deep ≤ 1) (hdm : deep ≤ 100) (hk : hdB cs % 7 = 5) (hv : hdB cs / 7 % 2 = 0) (hE : ExC n (deep - 1) true) (hlen : out.length + ((tokT true (mkT n (tlB cs)).1).length + 3) ≤ 1000000) :
    Calls Tryz.prog 27 #[mpt p, .int .i64 deep, .bool op] W (ExP W p M all left out ((.un 14 (mkT n (tlB cs)).1, (mkT n (tlB cs)).2)) (tOpen :: ((4, [45]) :: (tokT true (mkT n (tlB cs)).1 ++ [tShut])))) := by
  have qk : (hdB cs : Int) % 7 = 5 := by omega
  have qv : (hdB cs : Int) / 7 % 2 = 0 := by omega
  have hdd : IntKind.i64.wrap (deep - 1) = deep - 1 := IntWalk.i64_in _ (by omega)
  have hok := tr_okE6 (mkT_ok n _ h.byt.tl).1
  subst hop
  have hp := h.p_lt
  have hM := Lib.hid (MidM.start h (.int .i64 0) (.int .i64 0) (.int .i64 0) (.string ⟨#[]⟩) (.slice none 0 0))
  have C := Lib.hid (byteM (h.al (.cells #[.int .i64 0, .int .i64 0, .int .i64 0, .string ⟨#[]⟩, .slice none 0 0] 67)))
  have h256 := h.byt.hd
  clear h
  have HE := Lib.hid hE
  clear hE
  generalize hb : hdB cs = b at *
  go_enter Tryz.func27, Tryz.ntmps27
  try simp only [List.append_eq, List.cons_append, List.nil_append]
  go_wp2_with fail
  refine C.out.mono ?_
  rintro E w1 ⟨rfl, hI, hF⟩
  have HM := Lib.hid (hM.out.step hI hF)
  clear hI hF C hM
  have hp1 := HM.out.p_lt
  go_wp2_with fail
  have hS : StrL (w1.alloc (.cells #[.string ⟨#[40]⟩] 9)) (w1.alloc (.cells #[.string ⟨#[40]⟩] 9)).heap.size (.slice (some ⟨w1.heap.size, 0, none⟩) 1 1) [[40]] := strL_new w1 [[40]] 9 rfl
  have D := addM (HM.out.mki.al (.cells #[.string ⟨#[40]⟩] 9)) hS (by simp) (by simp; omega)
  rw [show List.map wtk [[40]] = [tOpen] by decide +kernel] at D
  have D := Lib.hid D
  have HX := Lib.hid (HM.out.al (.cells #[.string ⟨#[40]⟩] 9))
  clear hS
  refine D.out.mono ?_
  rintro E w2 ⟨rfl, hI, hF⟩
  have HM2 := Lib.hid (HX.out.step hI hF)
  clear hI hF HM HX D
  have hp2 := HM2.out.p_lt
  go_wp2_with fail
  have HB := Lib.hid (BoxM.new HM2.out (n := W.heap.size + 1) HM2.out.r5.lt (.int .i64 4) (.int .i64 14) (.int .i64 0) (.string ⟨#[]⟩) (.slice none 0 0))
  have HM4 := Lib.hid (HM2.out.al (.cells #[.int .i64 4, .int .i64 14, .int .i64 0, .string ⟨#[]⟩, .slice none 0 0] 67))
  have hp4 := HM4.out.p_lt
  have hz4 := S3.sz1 w2 (.cells #[.int .i64 4, .int .i64 14, .int .i64 0, .string ⟨#[]⟩, .slice none 0 0] 67)
  generalize hq : w2.heap.size = q2 at *
  generalize w2.alloc (.cells #[.int .i64 4, .int .i64 14, .int .i64 0, .string ⟨#[]⟩, .slice none 0 0] 67) = w4 at *
  have HMa := Lib.hid (HM4.out.al (.cells #[.string ⟨#[45]⟩, .string ⟨#[33]⟩] 9))
  have hS : StrL ((w4.alloc (.cells #[.string ⟨#[45]⟩, .string ⟨#[33]⟩] 9)).alloc (.cells #[.string ⟨#[45]⟩] 9)) ((w4.alloc (.cells #[.string ⟨#[45]⟩, .string ⟨#[33]⟩] 9)).alloc (.cells #[.string ⟨#[45]⟩] 9)).heap.size (.slice (some ⟨(w4.alloc (.cells #[.string ⟨#[45]⟩, .string ⟨#[33]⟩] 9)).heap.size, 0, none⟩) 1 1) [[45]] := strL_new (w4.alloc (.cells #[.string ⟨#[45]⟩, .string ⟨#[33]⟩] 9)) [[45]] 9 rfl
  have D := addM (HMa.out.mki.al (.cells #[.string ⟨#[45]⟩] 9)) hS (by simp) (by simp; omega)
  rw [show List.map wtk [[45]] = [(4, [45])] by decide +kernel] at D
  rw [S3.sz1 w4, hz4] at D
  have D := Lib.hid D
  have HX := Lib.hid (HMa.out.al (.cells #[.string ⟨#[45]⟩] 9))
  clear hS
  refine D.out.mono ?_
  rintro E w5 ⟨rfl, hI, hF⟩
  have HM5 := Lib.hid (HX.out.step hI hF)
  have HB5 := Lib.hid (((HB.out.step (.al w4 (.cells #[.string ⟨#[45]⟩, .string ⟨#[33]⟩] 9) hp4)).step (.al _ _ HMa.out.p_lt)).step hF)
  clear hI hF HM4 HX D HB HMa HM2
  have hX := HE.out w5 p M all _ left _ HM5.out.mki (by simp; omega)
  generalize hr : mkT n (tlB cs) = r at *
  have HXX := Lib.hid hX
  clear hX
  have g4 := HB5.out.facts.2.2.2.2
  have gq := HB5.out.pt.2.1
  go_wp2_with fail
  refine HXX.out.mono ?_
  rintro E w6 ⟨A, k, c, rfl, hEr, hI, hF⟩
  have hM6 := HM5.out.step hI hF
  have hB6 := HB5.out.step hF
  obtain ⟨i1, i2, i3, i4⟩ := erM_one hM6 hB6 hEr gq hok
  have x4 := hB6.froz (i := 4)
  have g4 := hB6.facts.2.2.2.2
  have gq6 := hB6.pt.2.1
  have HM7 := Lib.hid i1
  have HB7 := Lib.hid i2
  have HE7 := Lib.hid i3
  clear hI hF hEr hM6 hB6 HM5 HB5 HXX i1 i2 i3
  go_wp2_with fail
  generalize (w6.setCell ⟨q2, 4, none⟩ (.slice (some ⟨w6.heap.size, 0, none⟩) 1 1)).alloc (S3.eO r.1.ex (.slice A k c)) = w7 at *
  have hS : StrL (w7.alloc (.cells #[.string ⟨#[41]⟩] 9)) (w7.alloc (.cells #[.string ⟨#[41]⟩] 9)).heap.size (.slice (some ⟨w7.heap.size, 0, none⟩) 1 1) [[41]] := strL_new w7 [[41]] 9 rfl
  have D := addM (HM7.out.mki.al (.cells #[.string ⟨#[41]⟩] 9)) hS (by simp) (by simp; omega)
  rw [show List.map wtk [[41]] = [tShut] by decide +kernel] at D
  rw [i4] at D
  have D := Lib.hid D
  have HX := Lib.hid (HM7.out.al (.cells #[.string ⟨#[41]⟩] 9))
  clear hS
  refine D.out.mono ?_
  rintro E w8 ⟨rfl, hI, hF⟩
  have HM8 := Lib.hid (HX.out.step hI hF)
  have hp7 := HM7.out.p_lt
  have HB8 := Lib.hid ((HB7.out.step (.al w7 _ hp7)).step hF)
  have HE8 := Lib.hid (er_frm' (er_frm' HE7.out (.al w7 _ hp7)) hF)
  clear hI hF HX D HM7 HB7 HE7
  obtain ⟨e0, e1, e2, e3, e4⟩ := HB8.out.facts
  have hq8 := HB8.out.pt.2.1
  obtain ⟨z0, z1, z2, z3, z4, r0, r1, r2, r3, r4, y0, y1, y2, y3, y4⟩ := HM8.out.r5.facts
  have hq1 := HM8.out.r5.lt
  have HD := Lib.hid ((HM8.out.cast (out' := out ++ (tOpen :: ((4, [45]) :: (tokT true r.1 ++ [tShut])))) (by first | rfl | simp only [List.append_assoc, List.cons_append, List.nil_append])).done (t := .un 14 r.1) (HE8.out) (.int .i64 4) (.int .i64 14) (.int .i64 0) (.string ⟨#[]⟩) (.slice (some ⟨w6.heap.size, 0, none⟩) 1 1))
  go_wp2_with fail
  exact bodyPost_ret (v := S3.eV (Tr.ex (.un 14 r.1)) (.slice (some ⟨w6.heap.size, 0, none⟩) 1 1)) (by simp [results, Tryz.results27, go_sem, Tr.ex, r0, r1, r2, r3, r4]) rfl HD.out
set_option maxRecDepth 100000 in
set_option maxHeartbeats 8000000 in
theorem exprM_un1p {W : World} {p M : Nat} {all cs : List Nat} {left : Int} {out : TL} (h : MkI W p M all cs left out) (deep : Int) (op : Bool) (n : Nat) (hop : op = true) (hdeep : ¬ deep ≤ 1) (hdm : deep ≤ 100) (hk : hdB cs % 7 = 5) (hv : hdB cs / 7 % 2 = 1) (hE : ExC n (deep - 1) true) (hlen : out.length + ((tokT true (mkT n (tlB cs)).1).length + 3) ≤ 1000000) :
    Calls Tryz.prog 27 #[mpt p, .int .i64 deep, .bool op] W (ExP W p M all left out ((.un 15 (mkT n (tlB cs)).1, (mkT n (tlB cs)).2)) (tOpen :: ((4, [33]) :: (tokT true (mkT n (tlB cs)).1 ++ [tShut])))) := by
  have qk : (hdB cs : Int) % 7 = 5 := by omega
  have qv : (hdB cs : Int) / 7 % 2 = 1 := by omega
  have hdd : IntKind.i64.wrap (deep - 1) = deep - 1 := IntWalk.i64_in _ (by omega)
  have hok := tr_okE6 (mkT_ok n _ h.byt.tl).1
  subst hop
  have hp := h.p_lt
  have hM := Lib.hid (MidM.start h (.int .i64 0) (.int .i64 0) (.int .i64 0) (.string ⟨#[]⟩) (.slice none 0 0))
  have C := Lib.hid (byteM (h.al (.cells #[.int .i64 0, .int .i64 0, .int .i64 0, .string ⟨#[]⟩, .slice none 0 0] 67)))
  have h256 := h.byt.hd
  clear h
  have HE := Lib.hid hE
  clear hE
  generalize hb : hdB cs = b at *
  go_enter Tryz.func27, Tryz.ntmps27
  try simp only [List.append_eq, List.cons_append, List.nil_append]
  go_wp2_with fail
  refine C.out.mono ?_
  rintro E w1 ⟨rfl, hI, hF⟩
  have HM := Lib.hid (hM.out.step hI hF)
  clear hI hF C hM
  have hp1 := HM.out.p_lt
  go_wp2_with fail
  have hS : StrL (w1.alloc (.cells #[.string ⟨#[40]⟩] 9)) (w1.alloc (.cells #[.string ⟨#[40]⟩] 9)).heap.size (.slice (some ⟨w1.heap.size, 0, none⟩) 1 1) [[40]] := strL_new w1 [[40]] 9 rfl
  have D := addM (HM.out.mki.al (.cells #[.string ⟨#[40]⟩] 9)) hS (by simp) (by simp; omega)
  rw [show List.map wtk [[40]] = [tOpen] by decide +kernel] at D
  have D := Lib.hid D
  have HX := Lib.hid (HM.out.al (.cells #[.string ⟨#[40]⟩] 9))
  clear hS
  refine D.out.mono ?_
  rintro E w2 ⟨rfl, hI, hF⟩
  have HM2 := Lib.hid (HX.out.step hI hF)
  clear hI hF HM HX D
  have hp2 := HM2.out.p_lt
  go_wp2_with fail
  have HB := Lib.hid (BoxM.new HM2.out (n := W.heap.size + 1) HM2.out.r5.lt (.int .i64 4) (.int .i64 15) (.int .i64 0) (.string ⟨#[]⟩) (.slice none 0 0))
  have HM4 := Lib.hid (HM2.out.al (.cells #[.int .i64 4, .int .i64 15, .int .i64 0, .string ⟨#[]⟩, .slice none 0 0] 67))
  have hp4 := HM4.out.p_lt
  have hz4 := S3.sz1 w2 (.cells #[.int .i64 4, .int .i64 15, .int .i64 0, .string ⟨#[]⟩, .slice none 0 0] 67)
  generalize hq : w2.heap.size = q2 at *
  generalize w2.alloc (.cells #[.int .i64 4, .int .i64 15, .int .i64 0, .string ⟨#[]⟩, .slice none 0 0] 67) = w4 at *
  have HMa := Lib.hid (HM4.out.al (.cells #[.string ⟨#[45]⟩, .string ⟨#[33]⟩] 9))
  have hS : StrL ((w4.alloc (.cells #[.string ⟨#[45]⟩, .string ⟨#[33]⟩] 9)).alloc (.cells #[.string ⟨#[33]⟩] 9)) ((w4.alloc (.cells #[.string ⟨#[45]⟩, .string ⟨#[33]⟩] 9)).alloc (.cells #[.string ⟨#[33]⟩] 9)).heap.size (.slice (some ⟨(w4.alloc (.cells #[.string ⟨#[45]⟩, .string ⟨#[33]⟩] 9)).heap.size, 0, none⟩) 1 1) [[33]] := strL_new (w4.alloc (.cells #[.string ⟨#[45]⟩, .string ⟨#[33]⟩] 9)) [[33]] 9 rfl
  have D := addM (HMa.out.mki.al (.cells #[.string ⟨#[33]⟩] 9)) hS (by simp) (by simp; omega)
  rw [show List.map wtk [[33]] = [(4, [33])] by decide +kernel] at D
  rw [S3.sz1 w4, hz4] at D
  have D := Lib.hid D
  have HX := Lib.hid (HMa.out.al (.cells #[.string ⟨#[33]⟩] 9))
  clear hS
  refine D.out.mono ?_
  rintro E w5 ⟨rfl, hI, hF⟩
  have HM5 := Lib.hid (HX.out.step hI hF)
  have HB5 := Lib.hid (((HB.out.step (.al w4 (.cells #[.string ⟨#[45]⟩, .string ⟨#[33]⟩] 9) hp4)).step (.al _ _ HMa.out.p_lt)).step hF)
  clear hI hF HM4 HX D HB HMa HM2
  have hX := HE.out w5 p M all _ left _ HM5.out.mki (by simp; omega)
  generalize hr : mkT n (tlB cs) = r at *
  have HXX := Lib.hid hX
  clear hX
  have g4 := HB5.out.facts.2.2.2.2
  have gq := HB5.out.pt.2.1
  go_wp2_with fail
  refine HXX.out.mono ?_
  rintro E w6 ⟨A, k, c, rfl, hEr, hI, hF⟩
  have hM6 := HM5.out.step hI hF
  have hB6 := HB5.out.step hF
  obtain ⟨i1, i2, i3, i4⟩ := erM_one hM6 hB6 hEr gq hok
  have x4 := hB6.froz (i := 4)
  have g4 := hB6.facts.2.2.2.2
  have gq6 := hB6.pt.2.1
  have HM7 := Lib.hid i1
  have HB7 := Lib.hid i2
  have HE7 := Lib.hid i3
  clear hI hF hEr hM6 hB6 HM5 HB5 HXX i1 i2 i3
  go_wp2_with fail
  generalize (w6.setCell ⟨q2, 4, none⟩ (.slice (some ⟨w6.heap.size, 0, none⟩) 1 1)).alloc (S3.eO r.1.ex (.slice A k c)) = w7 at *
  have hS : StrL (w7.alloc (.cells #[.string ⟨#[41]⟩] 9)) (w7.alloc (.cells #[.string ⟨#[41]⟩] 9)).heap.size (.slice (some ⟨w7.heap.size, 0, none⟩) 1 1) [[41]] := strL_new w7 [[41]] 9 rfl
  have D := addM (HM7.out.mki.al (.cells #[.string ⟨#[41]⟩] 9)) hS (by simp) (by simp; omega)
  rw [show List.map wtk [[41]] = [tShut] by decide +kernel] at D
  rw [i4] at D
  have D := Lib.hid D
  have HX := Lib.hid (HM7.out.al (.cells #[.string ⟨#[41]⟩] 9))
  clear hS
  refine D.out.mono ?_
  rintro E w8 ⟨rfl, hI, hF⟩
  have HM8 := Lib.hid (HX.out.step hI hF)
  have hp7 := HM7.out.p_lt
  have HB8 := Lib.hid ((HB7.out.step (.al w7 _ hp7)).step hF)
  have HE8 := Lib.hid (er_frm' (er_frm' HE7.out (.al w7 _ hp7)) hF)
  clear hI hF HX D HM7 HB7 HE7
  obtain ⟨e0, e1, e2, e3, e4⟩ := HB8.out.facts
  have hq8 := HB8.out.pt.2.1
  obtain ⟨z0, z1, z2, z3, z4, r0, r1, r2, r3, r4, y0, y1, y2, y3, y4⟩ := HM8.out.r5.facts
  have hq1 := HM8.out.r5.lt
  have HD := Lib.hid ((HM8.out.cast (out' := out ++ (tOpen :: ((4, [33]) :: (tokT true r.1 ++ [tShut])))) (by first | rfl | simp only [List.append_assoc, List.cons_append, List.nil_append])).done (t := .un 15 r.1) (HE8.out) (.int .i64 4) (.int .i64 15) (.int .i64 0) (.string ⟨#[]⟩) (.slice (some ⟨w6.heap.size, 0, none⟩) 1 1))
  go_wp2_with fail
  exact bodyPost_ret (v := S3.eV (Tr.ex (.un 15 r.1)) (.slice (some ⟨w6.heap.size, 0, none⟩) 1 1)) (by simp [results, Tryz.results27, go_sem, Tr.ex, r0, r1, r2, r3, r4]) rfl HD.out
end Go.Proofs.YtipepljmfgjbpaaGreatDoor.E6

namespace Go.Proofs.YtipepljmfgjbpaaGreatDoor.E6
open Go Go.RowKit Go.Proofs.YtipepljmfgjbpaaGreatDoor Go.Proofs.YtipepljmfgjbpaaGreatDoor.E5

/-- The signs of operators, as the maker has them. -/
theorem row14_at (j : Nat) (h1 : 1 ≤ j) (h2 : j ≤ 13) : (#[.string ⟨#[]⟩, .string ⟨#[43]⟩, .string ⟨#[45]⟩, .string ⟨#[42]⟩, .string ⟨#[47]⟩, .string ⟨#[37]⟩, .string ⟨#[61, 61]⟩, .string ⟨#[33, 61]⟩, .string ⟨#[60]⟩, .string ⟨#[60, 61]⟩, .string ⟨#[62]⟩, .string ⟨#[62, 61]⟩, .string ⟨#[38, 38]⟩, .string ⟨#[124, 124]⟩] : Array Value)[j]? = some (.string (B (signB (j : Int)))) := by
  match j, h1, h2 with
  | 1, _, _ | 2, _, _ | 3, _, _ | 4, _, _ | 5, _, _ | 6, _, _ | 7, _, _ | 8, _, _ | 9, _, _ | 10, _, _ | 11, _, _ | 12, _, _ | 13, _, _ => rfl
theorem sg_all : ∀ i : Fin 13, wtk (signB ((i.1 + 1 : Nat) : Int)) = (4, signB ((i.1 + 1 : Nat) : Int)) ∧ signB ((i.1 + 1 : Nat) : Int) ≠ [] ∧ (signB ((i.1 + 1 : Nat) : Int)).length ≤ 2 := by decide +kernel
theorem sg_wtk {j : Nat} (h1 : 1 ≤ j) (h2 : j ≤ 13) : wtk (signB (j : Int)) = (4, signB (j : Int)) ∧ signB (j : Int) ≠ [] ∧ (signB (j : Int)).length ≤ 2 := by
  have := sg_all ⟨j - 1, by omega⟩
  simp only [show j - 1 + 1 = j by omega] at this
  exact this
open S3 in
theorem erM_two {R R' : Nat → Prop} {w : World} {a b : E5.Ex} {va vb : Value} (hR : ∀ x, R x → R' x) (hl : ∀ x, R x → x < w.heap.size) (hg : R' w.heap.size) (ha : OkE a) (hb : OkE b) (h1 : ER w R a.args va) (h2 : ER w R b.args vb) (T : TypeId) (ws : List Value) (hw : ws = eC a va ++ eC b vb) (c : Nat) :
    ER (w.alloc (.cells ws.toArray T)) R' [a, b] (.slice (some ⟨w.heap.size, 0, none⟩) 2 c) := by
  subst hw
  have k := fun (i : Nat) (u : Value) (h : (eC a va ++ eC b vb)[i]? = some u) => newCell w (eC a va ++ eC b vb).toArray T i u (by rw [List.getElem?_toArray]; exact h)
  have up : ∀ {l : List E5.Ex} {v : Value}, ER w R l v → ER (w.alloc (.cells (eC a va ++ eC b vb).toArray T)) R' l v := fun h => h.keep hR fun x i hx => (bal w _).cell (p := ⟨x, i, none⟩) (hl x hx)
  refine .mk [a, b] (some ⟨w.heap.size, 0, none⟩) c (fun i => if i = 0 then va else vb) (by simp) (fun i e he => ?_) (fun i e he => ?_)
  · match i, he with
    | 0, he => cases he; exact ⟨_, 0, rfl, hg, ha, ⟨k 0 _ rfl, k 1 _ rfl, k 2 _ rfl, k 3 _ rfl, k 4 _ rfl⟩⟩
    | 1, he => cases he; exact ⟨_, 0, rfl, hg, hb, ⟨k 5 _ rfl, k 6 _ rfl, k 7 _ rfl, k 8 _ rfl, k 9 _ rfl⟩⟩
    | i + 2, he => simp at he
  · match i, he with
    | 0, he => cases he; exact up h1
    | 1, he => cases he; exact up h2
    | i + 2, he => simp at he
/-- A whole expression is stored into a box. -/
theorem putB {W wr : World} {p M : Nat} {all cs : List Nat} {left : Int} {out : TL} (h : MidM W wr p M all cs left out) {q : Nat} {a0 a1 a2 a3 a4 : Value} (hB : BoxM p (W.heap.size + 1) wr q a0 a1 a2 a3 a4) {l : List Ex} {v : Value} (hE : S3.ER wr (PtM p (q + 1) wr) l v) (b0 b1 b2 b3 b4 : Value) :
    MidM W (put5 wr q b0 b1 b2 b3 b4) p M all cs left out ∧ BoxM p (W.heap.size + 1) (put5 wr q b0 b1 b2 b3 b4) q b0 b1 b2 b3 b4 ∧ S3.ER (put5 wr q b0 b1 b2 b3 b4) (PtM p (W.heap.size + 1) (put5 wr q b0 b1 b2 b3 b4)) l v := by
  have hne : q ≠ W.heap.size := by have := hB.pt.1; omega
  have hqp := hB.pt.2.2.1
  have p0 := hB.pt.mono (n' := W.heap.size) (by omega)
  have s := fun (n b i : Nat) (u : Value) (w : World) (hb : PtM p n w b) => PtM.set (i := i) (u := u) hb hqp
  have p1 := s _ _ 0 b0 _ p0
  have p2 := s _ _ 1 b1 _ p1
  have p3 := s _ _ 2 b2 _ p2
  have p4 := s _ _ 3 b3 _ p3
  have all5 : ∀ n b, PtM p n wr b → PtM p n (put5 wr q b0 b1 b2 b3 b4) b := fun n b hb => s _ _ _ _ _ (s _ _ _ _ _ (s _ _ _ _ _ (s _ _ _ _ _ (s _ _ _ _ _ hb))))
  refine ⟨((((h.set p0 hne 0 b0).set p1 hne 1 b1).set p2 hne 2 b2).set p3 hne 3 b3).set p4 hne 4 b4, ⟨put5_row ⟨_, _, _, _, _, hB.row⟩ b0 b1 b2 b3 b4, all5 _ _ hB.pt⟩, hE.keep (fun b hb => (all5 _ _ hb).mono (by have := hB.pt.1; omega)) fun b _ hb => World.cell?_of_block (w := wr) (put5_heap wr q b0 b1 b2 b3 b4 b (by have := hb.1; omega))⟩
set_option maxRecDepth 100000 in
set_option maxHeartbeats 8000000 in
theorem exprM_bin {W : World} {p M : Nat} {all cs : List Nat} {left : Int} {out : TL} (h : MkI W p M all cs left out) (deep : Int) (op : Bool) (n : Nat) (hop : op = false) (hdeep : ¬ deep ≤ 1) (hdm : deep ≤ 100) (hk : hdB cs % 7 = 6) (hE : ExC n (deep - 1) true) (hlen : out.length + ((tokT true (mkT n (tlB cs)).1).length + (tokT true (mkT n (mkT n (tlB cs)).2).1).length + 1) ≤ 1000000) :
    Calls Tryz.prog 27 #[mpt p, .int .i64 deep, .bool op] W (ExP W p M all left out ((.bin (1 + ((hdB cs / 7 % 13 : Nat) : Int)) (mkT n (tlB cs)).1 (mkT n (mkT n (tlB cs)).2).1, (mkT n (mkT n (tlB cs)).2).2)) ((tokT true (mkT n (tlB cs)).1 ++ (4, signB (1 + ((hdB cs / 7 % 13 : Nat) : Int))) :: tokT true (mkT n (mkT n (tlB cs)).2).1))) := by
  have qk : (hdB cs : Int) % 7 = 6 := by omega
  have hdd : IntKind.i64.wrap (deep - 1) = deep - 1 := IntWalk.i64_in _ (by omega)
  have hok := tr_okE6 (mkT_ok n _ h.byt.tl).1
  have hok2 := tr_okE6 (mkT_ok n _ (mkT_ok n _ h.byt.tl).2.2).1
  subst hop
  have hp := h.p_lt
  have hM := Lib.hid (MidM.start h (.int .i64 0) (.int .i64 0) (.int .i64 0) (.string ⟨#[]⟩) (.slice none 0 0))
  have C := Lib.hid (byteM (h.al (.cells #[.int .i64 0, .int .i64 0, .int .i64 0, .string ⟨#[]⟩, .slice none 0 0] 67)))
  have h256 := h.byt.hd
  clear h
  have HE := Lib.hid hE
  clear hE
  obtain ⟨j, hj⟩ : ∃ j, j = 1 + hdB cs / 7 % 13 := ⟨_, rfl⟩
  have hj1 : 1 ≤ j := by omega
  have hj2 : j ≤ 13 := by omega
  have hji : (j : Int) = 1 + (hdB cs : Int) / 7 % 13 := by omega
  rw [show (1 + ((hdB cs / 7 % 13 : Nat) : Int)) = (j : Int) by omega]
  have hw14 : IntKind.i64.wrap (14 + (hdB cs : Int) / 7 % 2) = 14 + (hdB cs : Int) / 7 % 2 := IntWalk.i64_in _ (by omega)
  have hjr : 1 + (hdB cs : Int) / 7 % 13 = (j : Int) := hji.symm
  have hwj : IntKind.i64.wrap (j : Int) = (j : Int) := IntWalk.i64_in _ (by omega)
  obtain ⟨hsw, hs0, hsl⟩ := sg_wtk hj1 hj2
  have hrow := row14_at j hj1 hj2
  have hjt : ((j : Int)).toNat = j := by omega
  have hjl : (j : Int) < 14 := by omega
  have hj0 : (0 : Int) ≤ (j : Int) := by omega
  generalize hsg : signB (j : Int) = sg at *
  clear hji hj
  generalize hb : hdB cs = b at *
  go_enter Tryz.func27, Tryz.ntmps27
  try simp only [List.append_eq, List.cons_append, List.nil_append]
  go_wp2_with fail
  refine C.out.mono ?_
  rintro E w1 ⟨rfl, hI, hF⟩
  have HM := Lib.hid (hM.out.step hI hF)
  clear hI hF C hM
  have hp1 := HM.out.p_lt
  go_wp2_with fail
  have HB := Lib.hid (BoxM.new HM.out (n := W.heap.size + 1) HM.out.r5.lt (.int .i64 4) (.int .i64 (14 + (b : Int) / 7 % 2)) (.int .i64 0) (.string ⟨#[]⟩) (.slice none 0 0))
  have HM4 := Lib.hid (HM.out.al (.cells #[.int .i64 4, .int .i64 (14 + (b : Int) / 7 % 2), .int .i64 0, .string ⟨#[]⟩, .slice none 0 0] 67))
  have hp4 := HM4.out.p_lt
  have hq4 : w1.heap.size < (w1.alloc (.cells #[.int .i64 4, .int .i64 (14 + (b : Int) / 7 % 2), .int .i64 0, .string ⟨#[]⟩, .slice none 0 0] 67)).heap.size := by rw [S3.sz1]; omega
  generalize hq : w1.heap.size = q2 at *
  generalize w1.alloc (.cells #[.int .i64 4, .int .i64 (14 + (b : Int) / 7 % 2), .int .i64 0, .string ⟨#[]⟩, .slice none 0 0] 67) = w4 at *
  have hX := HE.out w4 p M all _ left _ HM4.out.mki (by first | omega | (simp; omega))
  generalize hr : mkT n (tlB cs) = r at *
  have HXX := Lib.hid hX
  clear hX HM
  refine HXX.out.mono ?_
  rintro E w5 ⟨Al, kl, cl, rfl, hEl, hI, hF⟩
  have HM5 := Lib.hid (HM4.out.step hI hF)
  have HB5 := Lib.hid (HB.out.step hF)
  have hq5 := hF.size
  have HL6 := Lib.hid (BoxM.new HM5.out (n := W.heap.size + 1) HM5.out.r5.lt (.int .i64 r.1.ex.kind) (.int .i64 r.1.ex.op) (.int .i64 r.1.ex.num) (.string (S3.B r.1.ex.name)) (.slice Al kl cl))
  have hp5 := HM5.out.p_lt
  have hFal := FrM.al w5 (S3.eO r.1.ex (.slice Al kl cl)) hp5
  have HM6 := Lib.hid (HM5.out.al (S3.eO r.1.ex (.slice Al kl cl)))
  have HB6 := Lib.hid (HB5.out.step hFal)
  have HEl6 := Lib.hid ((er_frm' hEl hFal).keep (R' := PtM p (q2 + 1) (w5.alloc (S3.eO r.1.ex (.slice Al kl cl)))) (fun _ h => h.mono (by omega)) fun _ _ _ => rfl)
  have hz6 := S3.sz1 w5 (S3.eO r.1.ex (.slice Al kl cl))
  have hp6 := HM6.out.p_lt
  clear hEl hI hF hFal HM4 HB HXX HM5 HB5
  go_wp2_with fail
  generalize hq3 : w5.heap.size = q3 at *
  generalize w5.alloc (S3.eO r.1.ex (.slice Al kl cl)) = w6 at *
  have hc14 := S3.newCell w6 #[.string ⟨#[]⟩, .string ⟨#[43]⟩, .string ⟨#[45]⟩, .string ⟨#[42]⟩, .string ⟨#[47]⟩, .string ⟨#[37]⟩, .string ⟨#[61, 61]⟩, .string ⟨#[33, 61]⟩, .string ⟨#[60]⟩, .string ⟨#[60, 61]⟩, .string ⟨#[62]⟩, .string ⟨#[62, 61]⟩, .string ⟨#[38, 38]⟩, .string ⟨#[124, 124]⟩] 9 j _ hrow
  rw [hz6] at hc14
  have hS := strL_one (w6.alloc (.cells #[.string ⟨#[]⟩, .string ⟨#[43]⟩, .string ⟨#[45]⟩, .string ⟨#[42]⟩, .string ⟨#[47]⟩, .string ⟨#[37]⟩, .string ⟨#[61, 61]⟩, .string ⟨#[33, 61]⟩, .string ⟨#[60]⟩, .string ⟨#[60, 61]⟩, .string ⟨#[62]⟩, .string ⟨#[62, 61]⟩, .string ⟨#[38, 38]⟩, .string ⟨#[124, 124]⟩] 9)) (s := sg) hs0 (by omega)
  rw [S3.sz1 w6, hz6] at hS
  have HX := Lib.hid ((HM6.out.al (.cells #[.string ⟨#[]⟩, .string ⟨#[43]⟩, .string ⟨#[45]⟩, .string ⟨#[42]⟩, .string ⟨#[47]⟩, .string ⟨#[37]⟩, .string ⟨#[61, 61]⟩, .string ⟨#[33, 61]⟩, .string ⟨#[60]⟩, .string ⟨#[60, 61]⟩, .string ⟨#[62]⟩, .string ⟨#[62, 61]⟩, .string ⟨#[38, 38]⟩, .string ⟨#[124, 124]⟩] 9)).al (.cells #[.string (B sg)] 9))
  have D := addM HX.out.mki hS (by simp) (by simp; omega)
  rw [show List.map wtk [sg] = [(4, sg)] by rw [List.map, List.map, hsw]] at D
  have D := Lib.hid D
  have F6 := Lib.hid ((FrM.al w6 (.cells #[.string ⟨#[]⟩, .string ⟨#[43]⟩, .string ⟨#[45]⟩, .string ⟨#[42]⟩, .string ⟨#[47]⟩, .string ⟨#[37]⟩, .string ⟨#[61, 61]⟩, .string ⟨#[33, 61]⟩, .string ⟨#[60]⟩, .string ⟨#[60, 61]⟩, .string ⟨#[62]⟩, .string ⟨#[62, 61]⟩, .string ⟨#[38, 38]⟩, .string ⟨#[124, 124]⟩] 9) hp6).trans (FrM.al _ (.cells #[.string (B sg)] 9) (HM6.out.al (.cells #[.string ⟨#[]⟩, .string ⟨#[43]⟩, .string ⟨#[45]⟩, .string ⟨#[42]⟩, .string ⟨#[47]⟩, .string ⟨#[37]⟩, .string ⟨#[61, 61]⟩, .string ⟨#[33, 61]⟩, .string ⟨#[60]⟩, .string ⟨#[60, 61]⟩, .string ⟨#[62]⟩, .string ⟨#[62, 61]⟩, .string ⟨#[38, 38]⟩, .string ⟨#[124, 124]⟩] 9)).p_lt))
  clear hS
  go_wp2_with fail
  refine D.out.mono ?_
  rintro E w7 ⟨rfl, hI, hF⟩
  have HM7 := Lib.hid (HX.out.step hI hF)
  have hF7 := F6.out.trans hF
  have hz7 := hF7.size
  have HB7 := Lib.hid (HB6.out.step hF7)
  have HL7 := Lib.hid (HL6.out.step hF7)
  have HEl7 := Lib.hid (er_frm' HEl6.out hF7)
  clear hI hF hF7 HX D F6 HM6 HB6 HL6 HEl6 hc14 hrow
  go_wp2_with fail
  have hS0 : Hid True := Lib.hid trivial
  refine wp_region_noPanic ?_
  refine wp_region_held_drew (S := fun _ => Hid True) (by kernel_rfl) hS0 (fun hHeld => ?_)
  have hbd := bal_drM w7
  generalize w7.drew = wd at *
  have hp7 := HM7.out.p_lt
  have hFd := FrM.bel hbd hp7
  have HM8 := Lib.hid (HM7.out.bel hbd)
  have HB8 := Lib.hid (HB7.out.step hFd)
  have HL8 := Lib.hid (HL7.out.step hFd)
  have HEl8 := Lib.hid (er_frm' HEl7.out hFd)
  have hzd := hbd.size
  have hX2 := HE.out wd p M all _ left _ HM8.out.mki (by simp; omega)
  generalize hr2 : mkT n r.2 = rr at *
  have HX2 := Lib.hid hX2
  obtain ⟨l0, l1, l2, l3, l4⟩ := HL8.out.facts
  clear hX2 hbd hFd HM7 HB7 HL7 HEl7
  refine wpAnyH_take (i := 0) (oi := { dst := some 133, op := Go.Op.move (Go.Operand.tmp 12), type := 3, pos := "outright.go:80", after := #[], guard := none }) (v := ?_) rfl (by as_aux_lemma => kernel_rfl) (by as_aux_lemma => kernel_rfl) (by as_aux_lemma => kernel_rfl) (fun _ _ _ h => h) (Or.inl ⟨by rfl, ?_⟩) hHeld ?_
  rotate_left
  · (intro w hSw; (try dsimp only at hSw); go_simp; try with_reducible rfl)
  try simp only [Act.put, List.setIfInBounds_toArray, List.set_cons_zero, List.set_cons_succ]
  refine wpAnyH_take (i := 2) (oi := { dst := some 135, op := Go.Op.move (Go.Operand.tmp 0), type := 44, pos := "outright.go:80", after := #[], guard := none }) (v := ?_) rfl (by as_aux_lemma => kernel_rfl) (by as_aux_lemma => kernel_rfl) (by as_aux_lemma => kernel_rfl) (fun _ _ _ h => h) (Or.inl ⟨by rfl, ?_⟩) hHeld ?_
  rotate_left
  · (intro w hSw; (try dsimp only at hSw); go_simp; try with_reducible rfl)
  try simp only [Act.put, List.setIfInBounds_toArray, List.set_cons_zero, List.set_cons_succ]
  refine wpAnyH_take (i := 3) (oi := { dst := some 136, op := Go.Op.move (Go.Operand.tmp 1), type := 3, pos := "outright.go:80", after := #[], guard := none }) (v := ?_) rfl (by as_aux_lemma => kernel_rfl) (by as_aux_lemma => kernel_rfl) (by as_aux_lemma => kernel_rfl) (fun _ _ _ h => h) (Or.inl ⟨by rfl, ?_⟩) hHeld ?_
  rotate_left
  · (intro w hSw; (try dsimp only at hSw); go_simp; try with_reducible rfl)
  try simp only [Act.put, List.setIfInBounds_toArray, List.set_cons_zero, List.set_cons_succ]
  refine wpAnyH_take (i := 4) (oi := { dst := some 137, op := Go.Op.binOp Go.BinOp.sub 3 (Go.Operand.tmp 136) (Go.Operand.const (Go.Value.int Go.IntKind.i64 1)) 3, type := 3, pos := "outright.go:80", after := #[{ on := 3, ground := Go.Ground.data }], guard := none }) (v := ?_) rfl (by as_aux_lemma => kernel_rfl) (by as_aux_lemma => kernel_rfl) (by as_aux_lemma => kernel_rfl) (fun _ _ _ h => h) (Or.inl ⟨by rfl, ?_⟩) hHeld ?_
  rotate_left
  · (intro w hSw; (try dsimp only at hSw); go_simp; try with_reducible rfl)
  try simp only [Act.put, List.setIfInBounds_toArray, List.set_cons_zero, List.set_cons_succ]
  refine wpAnyH_ready (rs := [1, 5]) (by as_aux_lemma => kernel_rfl) (List.cons_ne_nil _ _) ?_
  refine AllReadyH.cons (o := { dst := some 134, op := Go.Op.load 67 (Go.Operand.tmp 13), type := 67, pos := "outright.go:80", after := #[], guard := none }) rfl (fun K hK => ?_) (AllReadyH.cons (o := { dst := some 138, op := Go.Op.call { callee := Go.Callee.value (Go.Operand.func 27), args := #[Go.Operand.tmp 135, Go.Operand.tmp 137, Go.Operand.const (Go.Value.bool true)], argTypes := #[44, 3, 4] }, type := 67, pos := "outright.go:80", after := #[{ on := 2, ground := Go.Ground.data }, { on := 4, ground := Go.Ground.data }], guard := none }) rfl (fun K hK => ?_) AllReadyH.nil)
  · go_simp
    refine hK.out _ _ (Lib.hid trivial) (fun _ => ?_)
    clear hK K
    try simp only [Act.put, List.setIfInBounds_toArray, List.set_cons_zero, List.set_cons_succ]
    refine wpAnyH_ready (rs := [5]) (by as_aux_lemma => kernel_rfl) (List.cons_ne_nil _ _) ?_
    refine AllReadyH.cons (o := { dst := some 138, op := Go.Op.call { callee := Go.Callee.value (Go.Operand.func 27), args := #[Go.Operand.tmp 135, Go.Operand.tmp 137, Go.Operand.const (Go.Value.bool true)], argTypes := #[44, 3, 4] }, type := 67, pos := "outright.go:80", after := #[{ on := 2, ground := Go.Ground.data }, { on := 4, ground := Go.Ground.data }], guard := none }) rfl (fun K hK => ?_) AllReadyH.nil
    go_simp
    refine HX2.out.mono ?_
    rintro e w8 ⟨A2, k2, c2, rfl, hE2, hI, hF⟩
    have HM9 := Lib.hid (HM8.out.step hI hF)
    have HB9 := Lib.hid (HB8.out.step hF)
    have hl9 := HL8.out.step hF
    obtain ⟨m0, m1, m2, m3, m4⟩ := hl9.facts
    have HEl9 := Lib.hid (er_frm' HEl8.out hF)
    have HEr9 := Lib.hid (hE2.keep (R' := PtM p (q2 + 1) w8) (fun _ h => h.mono (by omega)) fun _ _ _ => rfl)
    clear hE2 hI hF hl9 HX2 HM8 HB8 HL8 HEl8 l0 l1 l2 l3 l4
    go_wp2_with fail
    refine hK.out _ _ (Lib.hid trivial) (fun _ => ?_)
    clear hK K
    try simp only [Act.put, List.setIfInBounds_toArray, List.set_cons_zero, List.set_cons_succ]
    have hp8 := HM9.out.p_lt
    have hFa := FrM.al w8 (.cells #[.int .i64 r.1.ex.kind, .int .i64 r.1.ex.op, .int .i64 r.1.ex.num, .string (S3.B r.1.ex.name), .slice Al kl cl, .int .i64 rr.1.ex.kind, .int .i64 rr.1.ex.op, .int .i64 rr.1.ex.num, .string (S3.B rr.1.ex.name), .slice A2 k2 c2] 67) hp8
    have hBa := HB9.out.step hFa
    have hEa : S3.ER (w8.alloc (.cells #[.int .i64 r.1.ex.kind, .int .i64 r.1.ex.op, .int .i64 r.1.ex.num, .string (S3.B r.1.ex.name), .slice Al kl cl, .int .i64 rr.1.ex.kind, .int .i64 rr.1.ex.op, .int .i64 rr.1.ex.num, .string (S3.B rr.1.ex.name), .slice A2 k2 c2] 67)) (PtM p (q2 + 1) (w8.alloc (.cells #[.int .i64 r.1.ex.kind, .int .i64 r.1.ex.op, .int .i64 r.1.ex.num, .string (S3.B r.1.ex.name), .slice Al kl cl, .int .i64 rr.1.ex.kind, .int .i64 rr.1.ex.op, .int .i64 rr.1.ex.num, .string (S3.B rr.1.ex.name), .slice A2 k2 c2] 67))) [r.1.ex, rr.1.ex] (.slice (some ⟨w8.heap.size, 0, none⟩) 2 2) :=
      erM_two (R := PtM p (q2 + 1) w8) (fun x hx => hx.mv hFa) (fun x hx => hx.2.1) (PtM.new HM9.out.mki _ HB9.out.pt.2.1) hok hok2 HEl9.out HEr9.out 67 _ rfl 2
    obtain ⟨i1, i2, i3⟩ := putB (HM9.out.al (.cells #[.int .i64 r.1.ex.kind, .int .i64 r.1.ex.op, .int .i64 r.1.ex.num, .string (S3.B r.1.ex.name), .slice Al kl cl, .int .i64 rr.1.ex.kind, .int .i64 rr.1.ex.op, .int .i64 rr.1.ex.num, .string (S3.B rr.1.ex.name), .slice A2 k2 c2] 67)) hBa hEa (.int .i64 5) (.int .i64 (j : Int)) (.int .i64 0) (.string ⟨#[]⟩) (.slice (some ⟨w8.heap.size, 0, none⟩) 2 2)
    have HM10 := Lib.hid i1
    have HB10 := Lib.hid i2
    have HE10 := Lib.hid i3
    obtain ⟨n0, n1, n2, n3, n4⟩ := hBa.facts
    have f0 := hBa.froz (i := 0)
    have f1 := hBa.froz (i := 1)
    have f2 := hBa.froz (i := 2)
    have f3 := hBa.froz (i := 3)
    have f4 := hBa.froz (i := 4)
    have gqa := hBa.pt.2.1
    clear i1 i2 i3 hEa hBa hFa HM9 HB9 HEl9 HEr9
    refine wpAnyH_ready (rs := [6]) (by as_aux_lemma => kernel_rfl) (List.cons_ne_nil _ _) ?_
    refine AllReadyH.cons (o := { dst := some 139, op := Go.Op.buildSlice 24 2 #[(0, Go.Operand.tmp 134), (1, Go.Operand.tmp 138)], type := 24, pos := "outright.go:80", after := #[{ on := 1, ground := Go.Ground.data }, { on := 5, ground := Go.Ground.data }], guard := none }) rfl (fun K hK => ?_) AllReadyH.nil
    go_simp
    refine hK.out _ _ (Lib.hid trivial) (fun hHeld2 => ?_)
    clear hK K hHeld
    have hHeld := hHeld2
    clear hHeld2
    try simp only [Act.put, List.setIfInBounds_toArray, List.set_cons_zero, List.set_cons_succ]
    refine wpAnyH_ready (rs := [7]) (by as_aux_lemma => kernel_rfl) (List.cons_ne_nil _ _) ?_
    refine AllReadyH.cons (o := { dst := some 140, op := Go.Op.build 67 #[(0, Go.Operand.const (Go.Value.int Go.IntKind.i64 5)), (1, Go.Operand.tmp 133), (4, Go.Operand.tmp 139)], type := 67, pos := "outright.go:80", after := #[{ on := 0, ground := Go.Ground.data }, { on := 6, ground := Go.Ground.data }], guard := none }) rfl (fun K hK => ?_) AllReadyH.nil
    go_simp
    refine hK.out _ _ (Lib.hid trivial) (fun _ => ?_)
    clear hK K
    try simp only [Act.put, List.setIfInBounds_toArray, List.set_cons_zero, List.set_cons_succ]
    refine wpAnyH_ready (rs := [8]) (by as_aux_lemma => kernel_rfl) (List.cons_ne_nil _ _) ?_
    refine AllReadyH.cons (o := { dst := none, op := Go.Op.store 67 (Go.Operand.tmp 11) (Go.Operand.tmp 140), type := 0, pos := "outright.go:80", after := #[{ on := 7, ground := Go.Ground.data }, { on := 5, ground := Go.Ground.chain }, { on := 0, ground := Go.Ground.phase }, { on := 1, ground := Go.Ground.phase }, { on := 2, ground := Go.Ground.phase }, { on := 3, ground := Go.Ground.phase }, { on := 4, ground := Go.Ground.phase }, { on := 5, ground := Go.Ground.phase }, { on := 6, ground := Go.Ground.phase }, { on := 7, ground := Go.Ground.phase }], guard := none }) rfl (fun K hK => ?_) AllReadyH.nil
    go_wp2_with fail
    refine hK.out _ _ (Lib.hid trivial) (fun _ => ?_)
    clear hK K
    try simp only [Act.put, List.setIfInBounds_toArray, List.set_cons_zero, List.set_cons_succ]
    refine wpAnyH_done (by kernel_rfl) ?_ _
    refine NoPanic.normal ?_
    obtain ⟨e0, e1, e2, e3, e4⟩ := HB10.out.facts
    have hq8 := HB10.out.pt.2.1
    obtain ⟨z0, z1, z2, z3, z4, r0, r1, r2, r3, r4, y0, y1, y2, y3, y4⟩ := HM10.out.r5.facts
    have hq1 := HM10.out.r5.lt
    have HD := Lib.hid ((HM10.out.cast (out' := out ++ (tokT true r.1 ++ (4, sg) :: tokT true rr.1)) (by first | rfl | simp only [List.append_assoc, List.cons_append, List.nil_append])).done (t := .bin (j : Int) r.1 rr.1) (HE10.out) (.int .i64 5) (.int .i64 (j : Int)) (.int .i64 0) (.string ⟨#[]⟩) (.slice (some ⟨w8.heap.size, 0, none⟩) 2 2))
    go_wp2_with fail
    exact bodyPost_ret (v := S3.eV (Tr.ex (.bin (j : Int) r.1 rr.1)) (.slice (some ⟨w8.heap.size, 0, none⟩) 2 2)) (by simp [results, Tryz.results27, go_sem, Tr.ex, r0, r1, r2, r3, r4]) rfl HD.out
  · go_simp
    refine HX2.out.mono ?_
    rintro e w8 ⟨A2, k2, c2, rfl, hE2, hI, hF⟩
    have HM9 := Lib.hid (HM8.out.step hI hF)
    have HB9 := Lib.hid (HB8.out.step hF)
    have hl9 := HL8.out.step hF
    obtain ⟨m0, m1, m2, m3, m4⟩ := hl9.facts
    have HEl9 := Lib.hid (er_frm' HEl8.out hF)
    have HEr9 := Lib.hid (hE2.keep (R' := PtM p (q2 + 1) w8) (fun _ h => h.mono (by omega)) fun _ _ _ => rfl)
    clear hE2 hI hF hl9 HX2 HM8 HB8 HL8 HEl8 l0 l1 l2 l3 l4
    go_wp2_with fail
    refine hK.out _ _ (Lib.hid trivial) (fun _ => ?_)
    clear hK K
    try simp only [Act.put, List.setIfInBounds_toArray, List.set_cons_zero, List.set_cons_succ]
    refine wpAnyH_ready (rs := [1]) (by as_aux_lemma => kernel_rfl) (List.cons_ne_nil _ _) ?_
    refine AllReadyH.cons (o := { dst := some 134, op := Go.Op.load 67 (Go.Operand.tmp 13), type := 67, pos := "outright.go:80", after := #[], guard := none }) rfl (fun K hK => ?_) AllReadyH.nil
    go_simp
    refine hK.out _ _ (Lib.hid trivial) (fun _ => ?_)
    clear hK K
    try simp only [Act.put, List.setIfInBounds_toArray, List.set_cons_zero, List.set_cons_succ]
    have hp8 := HM9.out.p_lt
    have hFa := FrM.al w8 (.cells #[.int .i64 r.1.ex.kind, .int .i64 r.1.ex.op, .int .i64 r.1.ex.num, .string (S3.B r.1.ex.name), .slice Al kl cl, .int .i64 rr.1.ex.kind, .int .i64 rr.1.ex.op, .int .i64 rr.1.ex.num, .string (S3.B rr.1.ex.name), .slice A2 k2 c2] 67) hp8
    have hBa := HB9.out.step hFa
    have hEa : S3.ER (w8.alloc (.cells #[.int .i64 r.1.ex.kind, .int .i64 r.1.ex.op, .int .i64 r.1.ex.num, .string (S3.B r.1.ex.name), .slice Al kl cl, .int .i64 rr.1.ex.kind, .int .i64 rr.1.ex.op, .int .i64 rr.1.ex.num, .string (S3.B rr.1.ex.name), .slice A2 k2 c2] 67)) (PtM p (q2 + 1) (w8.alloc (.cells #[.int .i64 r.1.ex.kind, .int .i64 r.1.ex.op, .int .i64 r.1.ex.num, .string (S3.B r.1.ex.name), .slice Al kl cl, .int .i64 rr.1.ex.kind, .int .i64 rr.1.ex.op, .int .i64 rr.1.ex.num, .string (S3.B rr.1.ex.name), .slice A2 k2 c2] 67))) [r.1.ex, rr.1.ex] (.slice (some ⟨w8.heap.size, 0, none⟩) 2 2) :=
      erM_two (R := PtM p (q2 + 1) w8) (fun x hx => hx.mv hFa) (fun x hx => hx.2.1) (PtM.new HM9.out.mki _ HB9.out.pt.2.1) hok hok2 HEl9.out HEr9.out 67 _ rfl 2
    obtain ⟨i1, i2, i3⟩ := putB (HM9.out.al (.cells #[.int .i64 r.1.ex.kind, .int .i64 r.1.ex.op, .int .i64 r.1.ex.num, .string (S3.B r.1.ex.name), .slice Al kl cl, .int .i64 rr.1.ex.kind, .int .i64 rr.1.ex.op, .int .i64 rr.1.ex.num, .string (S3.B rr.1.ex.name), .slice A2 k2 c2] 67)) hBa hEa (.int .i64 5) (.int .i64 (j : Int)) (.int .i64 0) (.string ⟨#[]⟩) (.slice (some ⟨w8.heap.size, 0, none⟩) 2 2)
    have HM10 := Lib.hid i1
    have HB10 := Lib.hid i2
    have HE10 := Lib.hid i3
    obtain ⟨n0, n1, n2, n3, n4⟩ := hBa.facts
    have f0 := hBa.froz (i := 0)
    have f1 := hBa.froz (i := 1)
    have f2 := hBa.froz (i := 2)
    have f3 := hBa.froz (i := 3)
    have f4 := hBa.froz (i := 4)
    have gqa := hBa.pt.2.1
    clear i1 i2 i3 hEa hBa hFa HM9 HB9 HEl9 HEr9
    refine wpAnyH_ready (rs := [6]) (by as_aux_lemma => kernel_rfl) (List.cons_ne_nil _ _) ?_
    refine AllReadyH.cons (o := { dst := some 139, op := Go.Op.buildSlice 24 2 #[(0, Go.Operand.tmp 134), (1, Go.Operand.tmp 138)], type := 24, pos := "outright.go:80", after := #[{ on := 1, ground := Go.Ground.data }, { on := 5, ground := Go.Ground.data }], guard := none }) rfl (fun K hK => ?_) AllReadyH.nil
    go_simp
    refine hK.out _ _ (Lib.hid trivial) (fun hHeld2 => ?_)
    clear hK K hHeld
    have hHeld := hHeld2
    clear hHeld2
    try simp only [Act.put, List.setIfInBounds_toArray, List.set_cons_zero, List.set_cons_succ]
    refine wpAnyH_ready (rs := [7]) (by as_aux_lemma => kernel_rfl) (List.cons_ne_nil _ _) ?_
    refine AllReadyH.cons (o := { dst := some 140, op := Go.Op.build 67 #[(0, Go.Operand.const (Go.Value.int Go.IntKind.i64 5)), (1, Go.Operand.tmp 133), (4, Go.Operand.tmp 139)], type := 67, pos := "outright.go:80", after := #[{ on := 0, ground := Go.Ground.data }, { on := 6, ground := Go.Ground.data }], guard := none }) rfl (fun K hK => ?_) AllReadyH.nil
    go_simp
    refine hK.out _ _ (Lib.hid trivial) (fun _ => ?_)
    clear hK K
    try simp only [Act.put, List.setIfInBounds_toArray, List.set_cons_zero, List.set_cons_succ]
    refine wpAnyH_ready (rs := [8]) (by as_aux_lemma => kernel_rfl) (List.cons_ne_nil _ _) ?_
    refine AllReadyH.cons (o := { dst := none, op := Go.Op.store 67 (Go.Operand.tmp 11) (Go.Operand.tmp 140), type := 0, pos := "outright.go:80", after := #[{ on := 7, ground := Go.Ground.data }, { on := 5, ground := Go.Ground.chain }, { on := 0, ground := Go.Ground.phase }, { on := 1, ground := Go.Ground.phase }, { on := 2, ground := Go.Ground.phase }, { on := 3, ground := Go.Ground.phase }, { on := 4, ground := Go.Ground.phase }, { on := 5, ground := Go.Ground.phase }, { on := 6, ground := Go.Ground.phase }, { on := 7, ground := Go.Ground.phase }], guard := none }) rfl (fun K hK => ?_) AllReadyH.nil
    go_wp2_with fail
    refine hK.out _ _ (Lib.hid trivial) (fun _ => ?_)
    clear hK K
    try simp only [Act.put, List.setIfInBounds_toArray, List.set_cons_zero, List.set_cons_succ]
    refine wpAnyH_done (by kernel_rfl) ?_ _
    refine NoPanic.normal ?_
    obtain ⟨e0, e1, e2, e3, e4⟩ := HB10.out.facts
    have hq8 := HB10.out.pt.2.1
    obtain ⟨z0, z1, z2, z3, z4, r0, r1, r2, r3, r4, y0, y1, y2, y3, y4⟩ := HM10.out.r5.facts
    have hq1 := HM10.out.r5.lt
    have HD := Lib.hid ((HM10.out.cast (out' := out ++ (tokT true r.1 ++ (4, sg) :: tokT true rr.1)) (by first | rfl | simp only [List.append_assoc, List.cons_append, List.nil_append])).done (t := .bin (j : Int) r.1 rr.1) (HE10.out) (.int .i64 5) (.int .i64 (j : Int)) (.int .i64 0) (.string ⟨#[]⟩) (.slice (some ⟨w8.heap.size, 0, none⟩) 2 2))
    go_wp2_with fail
    exact bodyPost_ret (v := S3.eV (Tr.ex (.bin (j : Int) r.1 rr.1)) (.slice (some ⟨w8.heap.size, 0, none⟩) 2 2)) (by simp [results, Tryz.results27, go_sem, Tr.ex, r0, r1, r2, r3, r4]) rfl HD.out
end Go.Proofs.YtipepljmfgjbpaaGreatDoor.E6

namespace Go.Proofs.YtipepljmfgjbpaaGreatDoor.E6
open Go Go.RowKit Go.Proofs.YtipepljmfgjbpaaGreatDoor Go.Proofs.YtipepljmfgjbpaaGreatDoor.E5

set_option maxRecDepth 100000 in
set_option maxHeartbeats 8000000 in
theorem exprM_binp {W : World} {p M : Nat} {all cs : List Nat} {left : Int} {out : TL} (h : MkI W p M all cs left out) (deep : Int) (op : Bool) (n : Nat) (hop : op = true) (hdeep : ¬ deep ≤ 1) (hdm : deep ≤ 100) (hk : hdB cs % 7 = 6) (hE : ExC n (deep - 1) true) (hlen : out.length + ((tokT true (mkT n (tlB cs)).1).length + (tokT true (mkT n (mkT n (tlB cs)).2).1).length + 3) ≤ 1000000) :
    Calls Tryz.prog 27 #[mpt p, .int .i64 deep, .bool op] W (ExP W p M all left out ((.bin (1 + ((hdB cs / 7 % 13 : Nat) : Int)) (mkT n (tlB cs)).1 (mkT n (mkT n (tlB cs)).2).1, (mkT n (mkT n (tlB cs)).2).2)) (tOpen :: ((tokT true (mkT n (tlB cs)).1 ++ (4, signB (1 + ((hdB cs / 7 % 13 : Nat) : Int))) :: tokT true (mkT n (mkT n (tlB cs)).2).1) ++ [tShut]))) := by
  have qk : (hdB cs : Int) % 7 = 6 := by omega
  have hdd : IntKind.i64.wrap (deep - 1) = deep - 1 := IntWalk.i64_in _ (by omega)
  have hok := tr_okE6 (mkT_ok n _ h.byt.tl).1
  have hok2 := tr_okE6 (mkT_ok n _ (mkT_ok n _ h.byt.tl).2.2).1
  subst hop
  have hp := h.p_lt
  have hM := Lib.hid (MidM.start h (.int .i64 0) (.int .i64 0) (.int .i64 0) (.string ⟨#[]⟩) (.slice none 0 0))
  have C := Lib.hid (byteM (h.al (.cells #[.int .i64 0, .int .i64 0, .int .i64 0, .string ⟨#[]⟩, .slice none 0 0] 67)))
  have h256 := h.byt.hd
  clear h
  have HE := Lib.hid hE
  clear hE
  obtain ⟨j, hj⟩ : ∃ j, j = 1 + hdB cs / 7 % 13 := ⟨_, rfl⟩
  have hj1 : 1 ≤ j := by omega
  have hj2 : j ≤ 13 := by omega
  have hji : (j : Int) = 1 + (hdB cs : Int) / 7 % 13 := by omega
  rw [show (1 + ((hdB cs / 7 % 13 : Nat) : Int)) = (j : Int) by omega]
  have hw14 : IntKind.i64.wrap (14 + (hdB cs : Int) / 7 % 2) = 14 + (hdB cs : Int) / 7 % 2 := IntWalk.i64_in _ (by omega)
  have hjr : 1 + (hdB cs : Int) / 7 % 13 = (j : Int) := hji.symm
  have hwj : IntKind.i64.wrap (j : Int) = (j : Int) := IntWalk.i64_in _ (by omega)
  obtain ⟨hsw, hs0, hsl⟩ := sg_wtk hj1 hj2
  have hrow := row14_at j hj1 hj2
  have hjt : ((j : Int)).toNat = j := by omega
  have hjl : (j : Int) < 14 := by omega
  have hj0 : (0 : Int) ≤ (j : Int) := by omega
  generalize hsg : signB (j : Int) = sg at *
  clear hji hj
  generalize hb : hdB cs = b at *
  go_enter Tryz.func27, Tryz.ntmps27
  try simp only [List.append_eq, List.cons_append, List.nil_append]
  go_wp2_with fail
  refine C.out.mono ?_
  rintro E w1 ⟨rfl, hI, hF⟩
  have HM := Lib.hid (hM.out.step hI hF)
  clear hI hF C hM
  have hp1 := HM.out.p_lt
  go_wp2_with fail
  have hS : StrL (w1.alloc (.cells #[.string ⟨#[40]⟩] 9)) (w1.alloc (.cells #[.string ⟨#[40]⟩] 9)).heap.size (.slice (some ⟨w1.heap.size, 0, none⟩) 1 1) [[40]] := strL_new w1 [[40]] 9 rfl
  have D := addM (HM.out.mki.al (.cells #[.string ⟨#[40]⟩] 9)) hS (by simp) (by simp; omega)
  rw [show List.map wtk [[40]] = [tOpen] by decide +kernel] at D
  have D := Lib.hid D
  have HX := Lib.hid (HM.out.al (.cells #[.string ⟨#[40]⟩] 9))
  clear hS
  refine D.out.mono ?_
  rintro E w2 ⟨rfl, hI, hF⟩
  have HM2 := Lib.hid (HX.out.step hI hF)
  clear hI hF HM HX D
  have hp2 := HM2.out.p_lt
  go_wp2_with fail
  have HB := Lib.hid (BoxM.new HM2.out (n := W.heap.size + 1) HM2.out.r5.lt (.int .i64 4) (.int .i64 (14 + (b : Int) / 7 % 2)) (.int .i64 0) (.string ⟨#[]⟩) (.slice none 0 0))
  have HM4 := Lib.hid (HM2.out.al (.cells #[.int .i64 4, .int .i64 (14 + (b : Int) / 7 % 2), .int .i64 0, .string ⟨#[]⟩, .slice none 0 0] 67))
  have hp4 := HM4.out.p_lt
  have hq4 : w2.heap.size < (w2.alloc (.cells #[.int .i64 4, .int .i64 (14 + (b : Int) / 7 % 2), .int .i64 0, .string ⟨#[]⟩, .slice none 0 0] 67)).heap.size := by rw [S3.sz1]; omega
  generalize hq : w2.heap.size = q2 at *
  generalize w2.alloc (.cells #[.int .i64 4, .int .i64 (14 + (b : Int) / 7 % 2), .int .i64 0, .string ⟨#[]⟩, .slice none 0 0] 67) = w4 at *
  have hX := HE.out w4 p M all _ left _ HM4.out.mki (by first | omega | (simp; omega))
  generalize hr : mkT n (tlB cs) = r at *
  have HXX := Lib.hid hX
  clear hX HM2
  refine HXX.out.mono ?_
  rintro E w5 ⟨Al, kl, cl, rfl, hEl, hI, hF⟩
  have HM5 := Lib.hid (HM4.out.step hI hF)
  have HB5 := Lib.hid (HB.out.step hF)
  have hq5 := hF.size
  have HL6 := Lib.hid (BoxM.new HM5.out (n := W.heap.size + 1) HM5.out.r5.lt (.int .i64 r.1.ex.kind) (.int .i64 r.1.ex.op) (.int .i64 r.1.ex.num) (.string (S3.B r.1.ex.name)) (.slice Al kl cl))
  have hp5 := HM5.out.p_lt
  have hFal := FrM.al w5 (S3.eO r.1.ex (.slice Al kl cl)) hp5
  have HM6 := Lib.hid (HM5.out.al (S3.eO r.1.ex (.slice Al kl cl)))
  have HB6 := Lib.hid (HB5.out.step hFal)
  have HEl6 := Lib.hid ((er_frm' hEl hFal).keep (R' := PtM p (q2 + 1) (w5.alloc (S3.eO r.1.ex (.slice Al kl cl)))) (fun _ h => h.mono (by omega)) fun _ _ _ => rfl)
  have hz6 := S3.sz1 w5 (S3.eO r.1.ex (.slice Al kl cl))
  have hp6 := HM6.out.p_lt
  clear hEl hI hF hFal HM4 HB HXX HM5 HB5
  go_wp2_with fail
  generalize hq3 : w5.heap.size = q3 at *
  generalize w5.alloc (S3.eO r.1.ex (.slice Al kl cl)) = w6 at *
  have hc14 := S3.newCell w6 #[.string ⟨#[]⟩, .string ⟨#[43]⟩, .string ⟨#[45]⟩, .string ⟨#[42]⟩, .string ⟨#[47]⟩, .string ⟨#[37]⟩, .string ⟨#[61, 61]⟩, .string ⟨#[33, 61]⟩, .string ⟨#[60]⟩, .string ⟨#[60, 61]⟩, .string ⟨#[62]⟩, .string ⟨#[62, 61]⟩, .string ⟨#[38, 38]⟩, .string ⟨#[124, 124]⟩] 9 j _ hrow
  rw [hz6] at hc14
  have hS := strL_one (w6.alloc (.cells #[.string ⟨#[]⟩, .string ⟨#[43]⟩, .string ⟨#[45]⟩, .string ⟨#[42]⟩, .string ⟨#[47]⟩, .string ⟨#[37]⟩, .string ⟨#[61, 61]⟩, .string ⟨#[33, 61]⟩, .string ⟨#[60]⟩, .string ⟨#[60, 61]⟩, .string ⟨#[62]⟩, .string ⟨#[62, 61]⟩, .string ⟨#[38, 38]⟩, .string ⟨#[124, 124]⟩] 9)) (s := sg) hs0 (by omega)
  rw [S3.sz1 w6, hz6] at hS
  have HX := Lib.hid ((HM6.out.al (.cells #[.string ⟨#[]⟩, .string ⟨#[43]⟩, .string ⟨#[45]⟩, .string ⟨#[42]⟩, .string ⟨#[47]⟩, .string ⟨#[37]⟩, .string ⟨#[61, 61]⟩, .string ⟨#[33, 61]⟩, .string ⟨#[60]⟩, .string ⟨#[60, 61]⟩, .string ⟨#[62]⟩, .string ⟨#[62, 61]⟩, .string ⟨#[38, 38]⟩, .string ⟨#[124, 124]⟩] 9)).al (.cells #[.string (B sg)] 9))
  have D := addM HX.out.mki hS (by simp) (by simp; omega)
  rw [show List.map wtk [sg] = [(4, sg)] by rw [List.map, List.map, hsw]] at D
  have D := Lib.hid D
  have F6 := Lib.hid ((FrM.al w6 (.cells #[.string ⟨#[]⟩, .string ⟨#[43]⟩, .string ⟨#[45]⟩, .string ⟨#[42]⟩, .string ⟨#[47]⟩, .string ⟨#[37]⟩, .string ⟨#[61, 61]⟩, .string ⟨#[33, 61]⟩, .string ⟨#[60]⟩, .string ⟨#[60, 61]⟩, .string ⟨#[62]⟩, .string ⟨#[62, 61]⟩, .string ⟨#[38, 38]⟩, .string ⟨#[124, 124]⟩] 9) hp6).trans (FrM.al _ (.cells #[.string (B sg)] 9) (HM6.out.al (.cells #[.string ⟨#[]⟩, .string ⟨#[43]⟩, .string ⟨#[45]⟩, .string ⟨#[42]⟩, .string ⟨#[47]⟩, .string ⟨#[37]⟩, .string ⟨#[61, 61]⟩, .string ⟨#[33, 61]⟩, .string ⟨#[60]⟩, .string ⟨#[60, 61]⟩, .string ⟨#[62]⟩, .string ⟨#[62, 61]⟩, .string ⟨#[38, 38]⟩, .string ⟨#[124, 124]⟩] 9)).p_lt))
  clear hS
  go_wp2_with fail
  refine D.out.mono ?_
  rintro E w7 ⟨rfl, hI, hF⟩
  have HM7 := Lib.hid (HX.out.step hI hF)
  have hF7 := F6.out.trans hF
  have hz7 := hF7.size
  have HB7 := Lib.hid (HB6.out.step hF7)
  have HL7 := Lib.hid (HL6.out.step hF7)
  have HEl7 := Lib.hid (er_frm' HEl6.out hF7)
  clear hI hF hF7 HX D F6 HM6 HB6 HL6 HEl6 hc14 hrow
  go_wp2_with fail
  have hS0 : Hid True := Lib.hid trivial
  refine wp_region_noPanic ?_
  refine wp_region_held_drew (S := fun _ => Hid True) (by kernel_rfl) hS0 (fun hHeld => ?_)
  have hbd := bal_drM w7
  generalize w7.drew = wd at *
  have hp7 := HM7.out.p_lt
  have hFd := FrM.bel hbd hp7
  have HM8 := Lib.hid (HM7.out.bel hbd)
  have HB8 := Lib.hid (HB7.out.step hFd)
  have HL8 := Lib.hid (HL7.out.step hFd)
  have HEl8 := Lib.hid (er_frm' HEl7.out hFd)
  have hzd := hbd.size
  have hX2 := HE.out wd p M all _ left _ HM8.out.mki (by simp; omega)
  generalize hr2 : mkT n r.2 = rr at *
  have HX2 := Lib.hid hX2
  obtain ⟨l0, l1, l2, l3, l4⟩ := HL8.out.facts
  clear hX2 hbd hFd HM7 HB7 HL7 HEl7
  refine wpAnyH_take (i := 0) (oi := { dst := some 133, op := Go.Op.move (Go.Operand.tmp 12), type := 3, pos := "outright.go:80", after := #[], guard := none }) (v := ?_) rfl (by as_aux_lemma => kernel_rfl) (by as_aux_lemma => kernel_rfl) (by as_aux_lemma => kernel_rfl) (fun _ _ _ h => h) (Or.inl ⟨by rfl, ?_⟩) hHeld ?_
  rotate_left
  · (intro w hSw; (try dsimp only at hSw); go_simp; try with_reducible rfl)
  try simp only [Act.put, List.setIfInBounds_toArray, List.set_cons_zero, List.set_cons_succ]
  refine wpAnyH_take (i := 2) (oi := { dst := some 135, op := Go.Op.move (Go.Operand.tmp 0), type := 44, pos := "outright.go:80", after := #[], guard := none }) (v := ?_) rfl (by as_aux_lemma => kernel_rfl) (by as_aux_lemma => kernel_rfl) (by as_aux_lemma => kernel_rfl) (fun _ _ _ h => h) (Or.inl ⟨by rfl, ?_⟩) hHeld ?_
  rotate_left
  · (intro w hSw; (try dsimp only at hSw); go_simp; try with_reducible rfl)
  try simp only [Act.put, List.setIfInBounds_toArray, List.set_cons_zero, List.set_cons_succ]
  refine wpAnyH_take (i := 3) (oi := { dst := some 136, op := Go.Op.move (Go.Operand.tmp 1), type := 3, pos := "outright.go:80", after := #[], guard := none }) (v := ?_) rfl (by as_aux_lemma => kernel_rfl) (by as_aux_lemma => kernel_rfl) (by as_aux_lemma => kernel_rfl) (fun _ _ _ h => h) (Or.inl ⟨by rfl, ?_⟩) hHeld ?_
  rotate_left
  · (intro w hSw; (try dsimp only at hSw); go_simp; try with_reducible rfl)
  try simp only [Act.put, List.setIfInBounds_toArray, List.set_cons_zero, List.set_cons_succ]
  refine wpAnyH_take (i := 4) (oi := { dst := some 137, op := Go.Op.binOp Go.BinOp.sub 3 (Go.Operand.tmp 136) (Go.Operand.const (Go.Value.int Go.IntKind.i64 1)) 3, type := 3, pos := "outright.go:80", after := #[{ on := 3, ground := Go.Ground.data }], guard := none }) (v := ?_) rfl (by as_aux_lemma => kernel_rfl) (by as_aux_lemma => kernel_rfl) (by as_aux_lemma => kernel_rfl) (fun _ _ _ h => h) (Or.inl ⟨by rfl, ?_⟩) hHeld ?_
  rotate_left
  · (intro w hSw; (try dsimp only at hSw); go_simp; try with_reducible rfl)
  try simp only [Act.put, List.setIfInBounds_toArray, List.set_cons_zero, List.set_cons_succ]
  refine wpAnyH_ready (rs := [1, 5]) (by as_aux_lemma => kernel_rfl) (List.cons_ne_nil _ _) ?_
  refine AllReadyH.cons (o := { dst := some 134, op := Go.Op.load 67 (Go.Operand.tmp 13), type := 67, pos := "outright.go:80", after := #[], guard := none }) rfl (fun K hK => ?_) (AllReadyH.cons (o := { dst := some 138, op := Go.Op.call { callee := Go.Callee.value (Go.Operand.func 27), args := #[Go.Operand.tmp 135, Go.Operand.tmp 137, Go.Operand.const (Go.Value.bool true)], argTypes := #[44, 3, 4] }, type := 67, pos := "outright.go:80", after := #[{ on := 2, ground := Go.Ground.data }, { on := 4, ground := Go.Ground.data }], guard := none }) rfl (fun K hK => ?_) AllReadyH.nil)
  · go_simp
    refine hK.out _ _ (Lib.hid trivial) (fun _ => ?_)
    clear hK K
    try simp only [Act.put, List.setIfInBounds_toArray, List.set_cons_zero, List.set_cons_succ]
    refine wpAnyH_ready (rs := [5]) (by as_aux_lemma => kernel_rfl) (List.cons_ne_nil _ _) ?_
    refine AllReadyH.cons (o := { dst := some 138, op := Go.Op.call { callee := Go.Callee.value (Go.Operand.func 27), args := #[Go.Operand.tmp 135, Go.Operand.tmp 137, Go.Operand.const (Go.Value.bool true)], argTypes := #[44, 3, 4] }, type := 67, pos := "outright.go:80", after := #[{ on := 2, ground := Go.Ground.data }, { on := 4, ground := Go.Ground.data }], guard := none }) rfl (fun K hK => ?_) AllReadyH.nil
    go_simp
    refine HX2.out.mono ?_
    rintro e w8 ⟨A2, k2, c2, rfl, hE2, hI, hF⟩
    have HM9 := Lib.hid (HM8.out.step hI hF)
    have HB9 := Lib.hid (HB8.out.step hF)
    have hl9 := HL8.out.step hF
    obtain ⟨m0, m1, m2, m3, m4⟩ := hl9.facts
    have HEl9 := Lib.hid (er_frm' HEl8.out hF)
    have HEr9 := Lib.hid (hE2.keep (R' := PtM p (q2 + 1) w8) (fun _ h => h.mono (by omega)) fun _ _ _ => rfl)
    clear hE2 hI hF hl9 HX2 HM8 HB8 HL8 HEl8 l0 l1 l2 l3 l4
    go_wp2_with fail
    refine hK.out _ _ (Lib.hid trivial) (fun _ => ?_)
    clear hK K
    try simp only [Act.put, List.setIfInBounds_toArray, List.set_cons_zero, List.set_cons_succ]
    have hp8 := HM9.out.p_lt
    have hFa := FrM.al w8 (.cells #[.int .i64 r.1.ex.kind, .int .i64 r.1.ex.op, .int .i64 r.1.ex.num, .string (S3.B r.1.ex.name), .slice Al kl cl, .int .i64 rr.1.ex.kind, .int .i64 rr.1.ex.op, .int .i64 rr.1.ex.num, .string (S3.B rr.1.ex.name), .slice A2 k2 c2] 67) hp8
    have hBa := HB9.out.step hFa
    have hEa : S3.ER (w8.alloc (.cells #[.int .i64 r.1.ex.kind, .int .i64 r.1.ex.op, .int .i64 r.1.ex.num, .string (S3.B r.1.ex.name), .slice Al kl cl, .int .i64 rr.1.ex.kind, .int .i64 rr.1.ex.op, .int .i64 rr.1.ex.num, .string (S3.B rr.1.ex.name), .slice A2 k2 c2] 67)) (PtM p (q2 + 1) (w8.alloc (.cells #[.int .i64 r.1.ex.kind, .int .i64 r.1.ex.op, .int .i64 r.1.ex.num, .string (S3.B r.1.ex.name), .slice Al kl cl, .int .i64 rr.1.ex.kind, .int .i64 rr.1.ex.op, .int .i64 rr.1.ex.num, .string (S3.B rr.1.ex.name), .slice A2 k2 c2] 67))) [r.1.ex, rr.1.ex] (.slice (some ⟨w8.heap.size, 0, none⟩) 2 2) :=
      erM_two (R := PtM p (q2 + 1) w8) (fun x hx => hx.mv hFa) (fun x hx => hx.2.1) (PtM.new HM9.out.mki _ HB9.out.pt.2.1) hok hok2 HEl9.out HEr9.out 67 _ rfl 2
    obtain ⟨i1, i2, i3⟩ := putB (HM9.out.al (.cells #[.int .i64 r.1.ex.kind, .int .i64 r.1.ex.op, .int .i64 r.1.ex.num, .string (S3.B r.1.ex.name), .slice Al kl cl, .int .i64 rr.1.ex.kind, .int .i64 rr.1.ex.op, .int .i64 rr.1.ex.num, .string (S3.B rr.1.ex.name), .slice A2 k2 c2] 67)) hBa hEa (.int .i64 5) (.int .i64 (j : Int)) (.int .i64 0) (.string ⟨#[]⟩) (.slice (some ⟨w8.heap.size, 0, none⟩) 2 2)
    have HM10 := Lib.hid i1
    have HB10 := Lib.hid i2
    have HE10 := Lib.hid i3
    obtain ⟨n0, n1, n2, n3, n4⟩ := hBa.facts
    have f0 := hBa.froz (i := 0)
    have f1 := hBa.froz (i := 1)
    have f2 := hBa.froz (i := 2)
    have f3 := hBa.froz (i := 3)
    have f4 := hBa.froz (i := 4)
    have gqa := hBa.pt.2.1
    clear i1 i2 i3 hEa hBa hFa HM9 HB9 HEl9 HEr9
    refine wpAnyH_ready (rs := [6]) (by as_aux_lemma => kernel_rfl) (List.cons_ne_nil _ _) ?_
    refine AllReadyH.cons (o := { dst := some 139, op := Go.Op.buildSlice 24 2 #[(0, Go.Operand.tmp 134), (1, Go.Operand.tmp 138)], type := 24, pos := "outright.go:80", after := #[{ on := 1, ground := Go.Ground.data }, { on := 5, ground := Go.Ground.data }], guard := none }) rfl (fun K hK => ?_) AllReadyH.nil
    go_simp
    refine hK.out _ _ (Lib.hid trivial) (fun hHeld2 => ?_)
    clear hK K hHeld
    have hHeld := hHeld2
    clear hHeld2
    try simp only [Act.put, List.setIfInBounds_toArray, List.set_cons_zero, List.set_cons_succ]
    refine wpAnyH_ready (rs := [7]) (by as_aux_lemma => kernel_rfl) (List.cons_ne_nil _ _) ?_
    refine AllReadyH.cons (o := { dst := some 140, op := Go.Op.build 67 #[(0, Go.Operand.const (Go.Value.int Go.IntKind.i64 5)), (1, Go.Operand.tmp 133), (4, Go.Operand.tmp 139)], type := 67, pos := "outright.go:80", after := #[{ on := 0, ground := Go.Ground.data }, { on := 6, ground := Go.Ground.data }], guard := none }) rfl (fun K hK => ?_) AllReadyH.nil
    go_simp
    refine hK.out _ _ (Lib.hid trivial) (fun _ => ?_)
    clear hK K
    try simp only [Act.put, List.setIfInBounds_toArray, List.set_cons_zero, List.set_cons_succ]
    refine wpAnyH_ready (rs := [8]) (by as_aux_lemma => kernel_rfl) (List.cons_ne_nil _ _) ?_
    refine AllReadyH.cons (o := { dst := none, op := Go.Op.store 67 (Go.Operand.tmp 11) (Go.Operand.tmp 140), type := 0, pos := "outright.go:80", after := #[{ on := 7, ground := Go.Ground.data }, { on := 5, ground := Go.Ground.chain }, { on := 0, ground := Go.Ground.phase }, { on := 1, ground := Go.Ground.phase }, { on := 2, ground := Go.Ground.phase }, { on := 3, ground := Go.Ground.phase }, { on := 4, ground := Go.Ground.phase }, { on := 5, ground := Go.Ground.phase }, { on := 6, ground := Go.Ground.phase }, { on := 7, ground := Go.Ground.phase }], guard := none }) rfl (fun K hK => ?_) AllReadyH.nil
    go_wp2_with fail
    refine hK.out _ _ (Lib.hid trivial) (fun _ => ?_)
    clear hK K
    try simp only [Act.put, List.setIfInBounds_toArray, List.set_cons_zero, List.set_cons_succ]
    refine wpAnyH_done (by kernel_rfl) ?_ _
    refine NoPanic.normal ?_
    have hz10 : (put5 (w8.alloc (.cells #[.int .i64 r.1.ex.kind, .int .i64 r.1.ex.op, .int .i64 r.1.ex.num, .string (S3.B r.1.ex.name), .slice Al kl cl, .int .i64 rr.1.ex.kind, .int .i64 rr.1.ex.op, .int .i64 rr.1.ex.num, .string (S3.B rr.1.ex.name), .slice A2 k2 c2] 67)) q2 (.int .i64 5) (.int .i64 (j : Int)) (.int .i64 0) (.string ⟨#[]⟩) (.slice (some ⟨w8.heap.size, 0, none⟩) 2 2)).heap.size = w8.heap.size + 1 := by rw [put5_size, S3.sz1]
    have hp10 := HM10.out.p_lt
    go_wp2_with fail
    have hS : StrL ((put5 (w8.alloc (.cells #[.int .i64 r.1.ex.kind, .int .i64 r.1.ex.op, .int .i64 r.1.ex.num, .string (S3.B r.1.ex.name), .slice Al kl cl, .int .i64 rr.1.ex.kind, .int .i64 rr.1.ex.op, .int .i64 rr.1.ex.num, .string (S3.B rr.1.ex.name), .slice A2 k2 c2] 67)) q2 (.int .i64 5) (.int .i64 (j : Int)) (.int .i64 0) (.string ⟨#[]⟩) (.slice (some ⟨w8.heap.size, 0, none⟩) 2 2)).alloc (.cells #[.string ⟨#[41]⟩] 9)) ((put5 (w8.alloc (.cells #[.int .i64 r.1.ex.kind, .int .i64 r.1.ex.op, .int .i64 r.1.ex.num, .string (S3.B r.1.ex.name), .slice Al kl cl, .int .i64 rr.1.ex.kind, .int .i64 rr.1.ex.op, .int .i64 rr.1.ex.num, .string (S3.B rr.1.ex.name), .slice A2 k2 c2] 67)) q2 (.int .i64 5) (.int .i64 (j : Int)) (.int .i64 0) (.string ⟨#[]⟩) (.slice (some ⟨w8.heap.size, 0, none⟩) 2 2)).alloc (.cells #[.string ⟨#[41]⟩] 9)).heap.size (.slice (some ⟨(put5 (w8.alloc (.cells #[.int .i64 r.1.ex.kind, .int .i64 r.1.ex.op, .int .i64 r.1.ex.num, .string (S3.B r.1.ex.name), .slice Al kl cl, .int .i64 rr.1.ex.kind, .int .i64 rr.1.ex.op, .int .i64 rr.1.ex.num, .string (S3.B rr.1.ex.name), .slice A2 k2 c2] 67)) q2 (.int .i64 5) (.int .i64 (j : Int)) (.int .i64 0) (.string ⟨#[]⟩) (.slice (some ⟨w8.heap.size, 0, none⟩) 2 2)).heap.size, 0, none⟩) 1 1) [[41]] := strL_new (put5 (w8.alloc (.cells #[.int .i64 r.1.ex.kind, .int .i64 r.1.ex.op, .int .i64 r.1.ex.num, .string (S3.B r.1.ex.name), .slice Al kl cl, .int .i64 rr.1.ex.kind, .int .i64 rr.1.ex.op, .int .i64 rr.1.ex.num, .string (S3.B rr.1.ex.name), .slice A2 k2 c2] 67)) q2 (.int .i64 5) (.int .i64 (j : Int)) (.int .i64 0) (.string ⟨#[]⟩) (.slice (some ⟨w8.heap.size, 0, none⟩) 2 2)) [[41]] 9 rfl
    have D := addM (HM10.out.mki.al (.cells #[.string ⟨#[41]⟩] 9)) hS (by simp) (by simp; omega)
    rw [show List.map wtk [[41]] = [tShut] by decide +kernel] at D
    rw [hz10] at D
    have D := Lib.hid D
    have HX := Lib.hid (HM10.out.al (.cells #[.string ⟨#[41]⟩] 9))
    clear hS
    refine D.out.mono ?_
    rintro E w11 ⟨rfl, hI, hF⟩
    have HM11 := Lib.hid (HX.out.step hI hF)
    have HB11 := Lib.hid ((HB10.out.step (.al _ _ hp10)).step hF)
    have HE11 := Lib.hid (er_frm' (er_frm' HE10.out (.al _ _ hp10)) hF)
    clear hI hF HX D HM10 HB10 HE10
    obtain ⟨e0, e1, e2, e3, e4⟩ := HB11.out.facts
    have hq8 := HB11.out.pt.2.1
    obtain ⟨z0, z1, z2, z3, z4, r0, r1, r2, r3, r4, y0, y1, y2, y3, y4⟩ := HM11.out.r5.facts
    have hq1 := HM11.out.r5.lt
    have HD := Lib.hid ((HM11.out.cast (out' := out ++ (tOpen :: ((tokT true r.1 ++ (4, sg) :: tokT true rr.1) ++ [tShut]))) (by first | rfl | simp only [List.append_assoc, List.cons_append, List.nil_append])).done (t := .bin (j : Int) r.1 rr.1) (HE11.out) (.int .i64 5) (.int .i64 (j : Int)) (.int .i64 0) (.string ⟨#[]⟩) (.slice (some ⟨w8.heap.size, 0, none⟩) 2 2))
    go_wp2_with fail
    exact bodyPost_ret (v := S3.eV (Tr.ex (.bin (j : Int) r.1 rr.1)) (.slice (some ⟨w8.heap.size, 0, none⟩) 2 2)) (by simp [results, Tryz.results27, go_sem, Tr.ex, r0, r1, r2, r3, r4]) rfl HD.out
  · go_simp
    refine HX2.out.mono ?_
    rintro e w8 ⟨A2, k2, c2, rfl, hE2, hI, hF⟩
    have HM9 := Lib.hid (HM8.out.step hI hF)
    have HB9 := Lib.hid (HB8.out.step hF)
    have hl9 := HL8.out.step hF
    obtain ⟨m0, m1, m2, m3, m4⟩ := hl9.facts
    have HEl9 := Lib.hid (er_frm' HEl8.out hF)
    have HEr9 := Lib.hid (hE2.keep (R' := PtM p (q2 + 1) w8) (fun _ h => h.mono (by omega)) fun _ _ _ => rfl)
    clear hE2 hI hF hl9 HX2 HM8 HB8 HL8 HEl8 l0 l1 l2 l3 l4
    go_wp2_with fail
    refine hK.out _ _ (Lib.hid trivial) (fun _ => ?_)
    clear hK K
    try simp only [Act.put, List.setIfInBounds_toArray, List.set_cons_zero, List.set_cons_succ]
    refine wpAnyH_ready (rs := [1]) (by as_aux_lemma => kernel_rfl) (List.cons_ne_nil _ _) ?_
    refine AllReadyH.cons (o := { dst := some 134, op := Go.Op.load 67 (Go.Operand.tmp 13), type := 67, pos := "outright.go:80", after := #[], guard := none }) rfl (fun K hK => ?_) AllReadyH.nil
    go_simp
    refine hK.out _ _ (Lib.hid trivial) (fun _ => ?_)
    clear hK K
    try simp only [Act.put, List.setIfInBounds_toArray, List.set_cons_zero, List.set_cons_succ]
    have hp8 := HM9.out.p_lt
    have hFa := FrM.al w8 (.cells #[.int .i64 r.1.ex.kind, .int .i64 r.1.ex.op, .int .i64 r.1.ex.num, .string (S3.B r.1.ex.name), .slice Al kl cl, .int .i64 rr.1.ex.kind, .int .i64 rr.1.ex.op, .int .i64 rr.1.ex.num, .string (S3.B rr.1.ex.name), .slice A2 k2 c2] 67) hp8
    have hBa := HB9.out.step hFa
    have hEa : S3.ER (w8.alloc (.cells #[.int .i64 r.1.ex.kind, .int .i64 r.1.ex.op, .int .i64 r.1.ex.num, .string (S3.B r.1.ex.name), .slice Al kl cl, .int .i64 rr.1.ex.kind, .int .i64 rr.1.ex.op, .int .i64 rr.1.ex.num, .string (S3.B rr.1.ex.name), .slice A2 k2 c2] 67)) (PtM p (q2 + 1) (w8.alloc (.cells #[.int .i64 r.1.ex.kind, .int .i64 r.1.ex.op, .int .i64 r.1.ex.num, .string (S3.B r.1.ex.name), .slice Al kl cl, .int .i64 rr.1.ex.kind, .int .i64 rr.1.ex.op, .int .i64 rr.1.ex.num, .string (S3.B rr.1.ex.name), .slice A2 k2 c2] 67))) [r.1.ex, rr.1.ex] (.slice (some ⟨w8.heap.size, 0, none⟩) 2 2) :=
      erM_two (R := PtM p (q2 + 1) w8) (fun x hx => hx.mv hFa) (fun x hx => hx.2.1) (PtM.new HM9.out.mki _ HB9.out.pt.2.1) hok hok2 HEl9.out HEr9.out 67 _ rfl 2
    obtain ⟨i1, i2, i3⟩ := putB (HM9.out.al (.cells #[.int .i64 r.1.ex.kind, .int .i64 r.1.ex.op, .int .i64 r.1.ex.num, .string (S3.B r.1.ex.name), .slice Al kl cl, .int .i64 rr.1.ex.kind, .int .i64 rr.1.ex.op, .int .i64 rr.1.ex.num, .string (S3.B rr.1.ex.name), .slice A2 k2 c2] 67)) hBa hEa (.int .i64 5) (.int .i64 (j : Int)) (.int .i64 0) (.string ⟨#[]⟩) (.slice (some ⟨w8.heap.size, 0, none⟩) 2 2)
    have HM10 := Lib.hid i1
    have HB10 := Lib.hid i2
    have HE10 := Lib.hid i3
    obtain ⟨n0, n1, n2, n3, n4⟩ := hBa.facts
    have f0 := hBa.froz (i := 0)
    have f1 := hBa.froz (i := 1)
    have f2 := hBa.froz (i := 2)
    have f3 := hBa.froz (i := 3)
    have f4 := hBa.froz (i := 4)
    have gqa := hBa.pt.2.1
    clear i1 i2 i3 hEa hBa hFa HM9 HB9 HEl9 HEr9
    refine wpAnyH_ready (rs := [6]) (by as_aux_lemma => kernel_rfl) (List.cons_ne_nil _ _) ?_
    refine AllReadyH.cons (o := { dst := some 139, op := Go.Op.buildSlice 24 2 #[(0, Go.Operand.tmp 134), (1, Go.Operand.tmp 138)], type := 24, pos := "outright.go:80", after := #[{ on := 1, ground := Go.Ground.data }, { on := 5, ground := Go.Ground.data }], guard := none }) rfl (fun K hK => ?_) AllReadyH.nil
    go_simp
    refine hK.out _ _ (Lib.hid trivial) (fun hHeld2 => ?_)
    clear hK K hHeld
    have hHeld := hHeld2
    clear hHeld2
    try simp only [Act.put, List.setIfInBounds_toArray, List.set_cons_zero, List.set_cons_succ]
    refine wpAnyH_ready (rs := [7]) (by as_aux_lemma => kernel_rfl) (List.cons_ne_nil _ _) ?_
    refine AllReadyH.cons (o := { dst := some 140, op := Go.Op.build 67 #[(0, Go.Operand.const (Go.Value.int Go.IntKind.i64 5)), (1, Go.Operand.tmp 133), (4, Go.Operand.tmp 139)], type := 67, pos := "outright.go:80", after := #[{ on := 0, ground := Go.Ground.data }, { on := 6, ground := Go.Ground.data }], guard := none }) rfl (fun K hK => ?_) AllReadyH.nil
    go_simp
    refine hK.out _ _ (Lib.hid trivial) (fun _ => ?_)
    clear hK K
    try simp only [Act.put, List.setIfInBounds_toArray, List.set_cons_zero, List.set_cons_succ]
    refine wpAnyH_ready (rs := [8]) (by as_aux_lemma => kernel_rfl) (List.cons_ne_nil _ _) ?_
    refine AllReadyH.cons (o := { dst := none, op := Go.Op.store 67 (Go.Operand.tmp 11) (Go.Operand.tmp 140), type := 0, pos := "outright.go:80", after := #[{ on := 7, ground := Go.Ground.data }, { on := 5, ground := Go.Ground.chain }, { on := 0, ground := Go.Ground.phase }, { on := 1, ground := Go.Ground.phase }, { on := 2, ground := Go.Ground.phase }, { on := 3, ground := Go.Ground.phase }, { on := 4, ground := Go.Ground.phase }, { on := 5, ground := Go.Ground.phase }, { on := 6, ground := Go.Ground.phase }, { on := 7, ground := Go.Ground.phase }], guard := none }) rfl (fun K hK => ?_) AllReadyH.nil
    go_wp2_with fail
    refine hK.out _ _ (Lib.hid trivial) (fun _ => ?_)
    clear hK K
    try simp only [Act.put, List.setIfInBounds_toArray, List.set_cons_zero, List.set_cons_succ]
    refine wpAnyH_done (by kernel_rfl) ?_ _
    refine NoPanic.normal ?_
    have hz10 : (put5 (w8.alloc (.cells #[.int .i64 r.1.ex.kind, .int .i64 r.1.ex.op, .int .i64 r.1.ex.num, .string (S3.B r.1.ex.name), .slice Al kl cl, .int .i64 rr.1.ex.kind, .int .i64 rr.1.ex.op, .int .i64 rr.1.ex.num, .string (S3.B rr.1.ex.name), .slice A2 k2 c2] 67)) q2 (.int .i64 5) (.int .i64 (j : Int)) (.int .i64 0) (.string ⟨#[]⟩) (.slice (some ⟨w8.heap.size, 0, none⟩) 2 2)).heap.size = w8.heap.size + 1 := by rw [put5_size, S3.sz1]
    have hp10 := HM10.out.p_lt
    go_wp2_with fail
    have hS : StrL ((put5 (w8.alloc (.cells #[.int .i64 r.1.ex.kind, .int .i64 r.1.ex.op, .int .i64 r.1.ex.num, .string (S3.B r.1.ex.name), .slice Al kl cl, .int .i64 rr.1.ex.kind, .int .i64 rr.1.ex.op, .int .i64 rr.1.ex.num, .string (S3.B rr.1.ex.name), .slice A2 k2 c2] 67)) q2 (.int .i64 5) (.int .i64 (j : Int)) (.int .i64 0) (.string ⟨#[]⟩) (.slice (some ⟨w8.heap.size, 0, none⟩) 2 2)).alloc (.cells #[.string ⟨#[41]⟩] 9)) ((put5 (w8.alloc (.cells #[.int .i64 r.1.ex.kind, .int .i64 r.1.ex.op, .int .i64 r.1.ex.num, .string (S3.B r.1.ex.name), .slice Al kl cl, .int .i64 rr.1.ex.kind, .int .i64 rr.1.ex.op, .int .i64 rr.1.ex.num, .string (S3.B rr.1.ex.name), .slice A2 k2 c2] 67)) q2 (.int .i64 5) (.int .i64 (j : Int)) (.int .i64 0) (.string ⟨#[]⟩) (.slice (some ⟨w8.heap.size, 0, none⟩) 2 2)).alloc (.cells #[.string ⟨#[41]⟩] 9)).heap.size (.slice (some ⟨(put5 (w8.alloc (.cells #[.int .i64 r.1.ex.kind, .int .i64 r.1.ex.op, .int .i64 r.1.ex.num, .string (S3.B r.1.ex.name), .slice Al kl cl, .int .i64 rr.1.ex.kind, .int .i64 rr.1.ex.op, .int .i64 rr.1.ex.num, .string (S3.B rr.1.ex.name), .slice A2 k2 c2] 67)) q2 (.int .i64 5) (.int .i64 (j : Int)) (.int .i64 0) (.string ⟨#[]⟩) (.slice (some ⟨w8.heap.size, 0, none⟩) 2 2)).heap.size, 0, none⟩) 1 1) [[41]] := strL_new (put5 (w8.alloc (.cells #[.int .i64 r.1.ex.kind, .int .i64 r.1.ex.op, .int .i64 r.1.ex.num, .string (S3.B r.1.ex.name), .slice Al kl cl, .int .i64 rr.1.ex.kind, .int .i64 rr.1.ex.op, .int .i64 rr.1.ex.num, .string (S3.B rr.1.ex.name), .slice A2 k2 c2] 67)) q2 (.int .i64 5) (.int .i64 (j : Int)) (.int .i64 0) (.string ⟨#[]⟩) (.slice (some ⟨w8.heap.size, 0, none⟩) 2 2)) [[41]] 9 rfl
    have D := addM (HM10.out.mki.al (.cells #[.string ⟨#[41]⟩] 9)) hS (by simp) (by simp; omega)
    rw [show List.map wtk [[41]] = [tShut] by decide +kernel] at D
    rw [hz10] at D
    have D := Lib.hid D
    have HX := Lib.hid (HM10.out.al (.cells #[.string ⟨#[41]⟩] 9))
    clear hS
    refine D.out.mono ?_
    rintro E w11 ⟨rfl, hI, hF⟩
    have HM11 := Lib.hid (HX.out.step hI hF)
    have HB11 := Lib.hid ((HB10.out.step (.al _ _ hp10)).step hF)
    have HE11 := Lib.hid (er_frm' (er_frm' HE10.out (.al _ _ hp10)) hF)
    clear hI hF HX D HM10 HB10 HE10
    obtain ⟨e0, e1, e2, e3, e4⟩ := HB11.out.facts
    have hq8 := HB11.out.pt.2.1
    obtain ⟨z0, z1, z2, z3, z4, r0, r1, r2, r3, r4, y0, y1, y2, y3, y4⟩ := HM11.out.r5.facts
    have hq1 := HM11.out.r5.lt
    have HD := Lib.hid ((HM11.out.cast (out' := out ++ (tOpen :: ((tokT true r.1 ++ (4, sg) :: tokT true rr.1) ++ [tShut]))) (by first | rfl | simp only [List.append_assoc, List.cons_append, List.nil_append])).done (t := .bin (j : Int) r.1 rr.1) (HE11.out) (.int .i64 5) (.int .i64 (j : Int)) (.int .i64 0) (.string ⟨#[]⟩) (.slice (some ⟨w8.heap.size, 0, none⟩) 2 2))
    go_wp2_with fail
    exact bodyPost_ret (v := S3.eV (Tr.ex (.bin (j : Int) r.1 rr.1)) (.slice (some ⟨w8.heap.size, 0, none⟩) 2 2)) (by simp [results, Tryz.results27, go_sem, Tr.ex, r0, r1, r2, r3, r4]) rfl HD.out
end Go.Proofs.YtipepljmfgjbpaaGreatDoor.E6

namespace Go.Proofs.YtipepljmfgjbpaaGreatDoor.E6
open Go Go.RowKit Go.Proofs.YtipepljmfgjbpaaGreatDoor Go.Proofs.YtipepljmfgjbpaaGreatDoor.E5

theorem tokT_leaf {t : Tr} (op : Bool) (h : t.comp = false) : tokT op t = t.tk := by unfold tokT parT; rw [h, Bool.and_false]; rfl
theorem tokT_true {t : Tr} (h : t.comp = true) : tokT true t = tOpen :: (t.tk ++ [tShut]) := by unfold tokT parT; rw [h]; rfl
theorem tokT_false (t : Tr) : tokT false t = t.tk := rfl
theorem leafT_lf (k b : Nat) (r : List Nat) : (leafT k b r).1.comp = false := by
  unfold leafT
  split
  · rfl
  split
  · rfl
  split <;> rfl
theorem leaf_ex {W : World} {p M : Nat} {all cs : List Nat} {left : Int} {out : TL} (h : MkI W p M all cs left out) (deep : Int) (op : Bool) (k : Nat) (hk : (deep ≤ 1 ∧ k = hdB cs % 4) ∨ (¬ deep ≤ 1 ∧ k = hdB cs % 7)) (hk3 : k ≤ 3) (hlen : out.length + (leafT k (hdB cs) (tlB cs)).1.tk.length ≤ 1000000) :
    Calls Tryz.prog 27 #[mpt p, .int .i64 deep, .bool op] W (ExP W p M all left out (leafT k (hdB cs) (tlB cs)) (leafT k (hdB cs) (tlB cs)).1.tk) := by
  obtain rfl | rfl | rfl | rfl : k = 0 ∨ k = 1 ∨ k = 2 ∨ k = 3 := by omega
  · have e : leafT 0 (hdB cs) (tlB cs) = (.num (hdB cs / 7 % 10), tlB cs) := rfl
    rw [e] at hlen ⊢
    rcases hk with ⟨h1, h2⟩ | ⟨h1, h2⟩
    · exact exprM_num0 h deep op h1 h2.symm hlen
    · exact exprM_num1 h deep op h1 h2.symm hlen
  · rcases Nat.mod_two_eq_zero_or_one (hdB cs / 7) with hv | hv
    · have e : leafT 1 (hdB cs) (tlB cs) = (.bool false, tlB cs) := by unfold leafT; rw [if_neg (by decide), if_pos rfl, decide_eq_false (by omega)]
      rw [e] at hlen ⊢
      rcases hk with ⟨h1, h2⟩ | ⟨h1, h2⟩
      · exact exprM_bool0f h deep op h1 h2.symm hv hlen
      · exact exprM_bool1f h deep op h1 h2.symm hv hlen
    · have e : leafT 1 (hdB cs) (tlB cs) = (.bool true, tlB cs) := by unfold leafT; rw [if_neg (by decide), if_pos rfl, decide_eq_true hv]
      rw [e] at hlen ⊢
      rcases hk with ⟨h1, h2⟩ | ⟨h1, h2⟩
      · exact exprM_bool0t h deep op h1 h2.symm hv hlen
      · exact exprM_bool1t h deep op h1 h2.symm hv hlen
  · have e : leafT 2 (hdB cs) (tlB cs) = (.var (nmW (hdB (tlB cs))), tlB (tlB cs)) := rfl
    rw [e] at hlen ⊢
    rcases hk with ⟨h1, h2⟩ | ⟨h1, h2⟩
    · exact exprM_var0 h deep op h1 h2.symm hlen
    · exact exprM_var1 h deep op h1 h2.symm hlen
  · have e : leafT 3 (hdB cs) (tlB cs) = (.len (nmW (hdB (tlB cs))), tlB (tlB cs)) := rfl
    rw [e] at hlen ⊢
    rcases hk with ⟨h1, h2⟩ | ⟨h1, h2⟩
    · exact exprM_len0 h deep op h1 h2.symm hlen
    · exact exprM_len1 h deep op h1 h2.symm hlen
theorem exprM_all : ∀ (n : Nat), n ≤ 10 → ∀ op, ExC n ((n : Int) + 1) op := by
  intro n
  induction n with
  | zero =>
    intro _ op W p M all cs left out h hlen
    have e : mkT 0 cs = leafT (hdB cs % 4) (hdB cs) (tlB cs) := rfl
    rw [e] at hlen ⊢
    rw [tokT_leaf op (leafT_lf _ _ _)] at hlen ⊢
    exact leaf_ex h _ op _ (.inl ⟨by omega, rfl⟩) (by omega) hlen
  | succ n ih =>
    intro hn op W p M all cs left out h hlen
    have hd : ¬ ((n + 1 : Nat) : Int) + 1 ≤ 1 := by omega
    have ihF := ih (by omega) false
    have ihT := ih (by omega) true
    rw [show (n : Int) + 1 = ((n + 1 : Nat) : Int) + 1 - 1 by omega] at ihF ihT
    by_cases h3 : hdB cs % 7 ≤ 3
    · have e : mkT (n + 1) cs = leafT (hdB cs % 7) (hdB cs) (tlB cs) := by rw [mkT, if_pos h3]
      rw [e] at hlen ⊢
      rw [tokT_leaf op (leafT_lf _ _ _)] at hlen ⊢
      exact leaf_ex h _ op _ (.inr ⟨hd, rfl⟩) h3 hlen
    by_cases h4 : hdB cs % 7 = 4
    · have e : mkT (n + 1) cs = (.idx (nmW (hdB (tlB cs))) (mkT n (tlB (tlB cs))).1, (mkT n (tlB (tlB cs))).2) := by rw [mkT, if_neg h3, if_pos h4]
      rw [e] at hlen ⊢
      rw [tokT_leaf op rfl] at hlen ⊢
      exact exprM_idx h _ op n hd (by omega) h4 ihF (by simp [Tr.tk] at hlen; omega)
    by_cases h5 : hdB cs % 7 = 5
    · rcases Nat.mod_two_eq_zero_or_one (hdB cs / 7) with hv | hv
      · have e : mkT (n + 1) cs = (.un 14 (mkT n (tlB cs)).1, (mkT n (tlB cs)).2) := by rw [mkT, if_neg h3, if_neg h4, if_pos h5, hv]; rfl
        rw [e] at hlen ⊢
        have ht : (Tr.un 14 (mkT n (tlB cs)).1).tk = (4, [45]) :: tokT true (mkT n (tlB cs)).1 := rfl
        cases op with
        | false =>
          rw [tokT_false, ht] at hlen ⊢
          exact exprM_un0 h _ false n rfl hd (by omega) h5 hv ihT (by simp at hlen; omega)
        | true =>
          rw [tokT_true rfl, ht] at hlen ⊢
          exact exprM_un0p h _ true n rfl hd (by omega) h5 hv ihT (by simp at hlen; omega)
      · have e : mkT (n + 1) cs = (.un 15 (mkT n (tlB cs)).1, (mkT n (tlB cs)).2) := by rw [mkT, if_neg h3, if_neg h4, if_pos h5, hv]; rfl
        rw [e] at hlen ⊢
        have ht : (Tr.un 15 (mkT n (tlB cs)).1).tk = (4, [33]) :: tokT true (mkT n (tlB cs)).1 := rfl
        cases op with
        | false =>
          rw [tokT_false, ht] at hlen ⊢
          exact exprM_un1 h _ false n rfl hd (by omega) h5 hv ihT (by simp at hlen; omega)
        | true =>
          rw [tokT_true rfl, ht] at hlen ⊢
          exact exprM_un1p h _ true n rfl hd (by omega) h5 hv ihT (by simp at hlen; omega)
    · have h6 : hdB cs % 7 = 6 := by omega
      have e : mkT (n + 1) cs = (.bin (1 + ((hdB cs / 7 % 13 : Nat) : Int)) (mkT n (tlB cs)).1 (mkT n (mkT n (tlB cs)).2).1, (mkT n (mkT n (tlB cs)).2).2) := by rw [mkT, if_neg h3, if_neg h4, if_neg h5]
      rw [e] at hlen ⊢
      have ht : (Tr.bin (1 + ((hdB cs / 7 % 13 : Nat) : Int)) (mkT n (tlB cs)).1 (mkT n (mkT n (tlB cs)).2).1).tk = tokT true (mkT n (tlB cs)).1 ++ (4, signB (1 + ((hdB cs / 7 % 13 : Nat) : Int))) :: tokT true (mkT n (mkT n (tlB cs)).2).1 := rfl
      cases op with
      | false =>
        rw [tokT_false, ht] at hlen ⊢
        exact exprM_bin h _ false n rfl hd (by omega) h6 ihT (by simp at hlen; omega)
      | true =>
        rw [tokT_true rfl, ht] at hlen ⊢
        exact exprM_binp h _ true n rfl hd (by omega) h6 ihT (by simp at hlen; omega)
end Go.Proofs.YtipepljmfgjbpaaGreatDoor.E6
