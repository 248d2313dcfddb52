/-
  Drafts in memory: next; variable, pair: contracts.
  Made: an expression out of a draft: contract.
-/
import Derived.Test.YtoldhocdfkndbaaGreatDoorEWk
import Derived.Test.YtoldhocdfkndbaaGreatDoorEDraft
import Derived.Test.YtoldhocdfkndbaaGreatDoorECur
import Derived.BigQuiet
import Derived.Deep.RegionWith
import Derived.Test.YtoldhocdfkndbaaGreatDoorERead2
import Derived.BigRegion
namespace Go.Proofs.YtoldhocdfkndbaaGreatDoor.E5
open Go Go.RowKit Go.Proofs.YtoldhocdfkndbaaGreatDoor

theorem bal_dr (w : World) : Below w.heap.size w w.drew := (Below.refl _ w).drew
/-- Bytes in a row that is not block p. -/
def BySl (w : World) (M p : Nat) (v : Value) (ds : List Nat) : Prop := ∃ A c, v = .slice A ds.length c ∧ ds.length ≤ c ∧ c ≤ 9223372036854775807 ∧
  ∀ (i x : Nat), ds[i]? = some x → x ≤ 255 ∧ ∃ b o, A = some ⟨b, o, none⟩ ∧ b ≠ p ∧ b < M ∧ w.cell? ⟨b, o + i, none⟩ = some (.int .u8 (x : Int))
/-- A draft whose variable is block p. -/
structure Dr (w : World) (M p : Nat) (ds : List Nat) : Prop where
  ex : ∃ v T, w.heap[p]? = some (.cells #[v] T (0, 0)) ∧ BySl w M p v ds
  lt : p < M
  le : M ≤ w.heap.size
theorem Dr.cells {w : World} {M p : Nat} {ds : List Nat} (h : Dr w M p ds) : ∃ v T, w.heap[p]? = some (.cells #[v] T (0, 0)) ∧ w.cell? ⟨p, 0, none⟩ = some v ∧ w.frozen? ⟨p, 0, none⟩ = false ∧ BySl w M p v ds := by
  obtain ⟨v, T, h1, h2⟩ := h.ex
  refine ⟨v, T, h1, (cell_of_row _ _ 0 _ _ _ h1).trans rfl, ?_, h2⟩
  unfold World.frozen?; rw [h1]; rfl
theorem FrC.cell {b : Nat} {w w' : World} (h : FrC b w w') {k i : Nat} (hk : k < w.heap.size) (hb : k ≠ b) : w'.cell? ⟨k, i, none⟩ = w.cell? ⟨k, i, none⟩ := World.cell?_of_block (w := w) (h.block k hk hb)
theorem BySl.fr {w w' : World} {M p : Nat} {v : Value} {ds : List Nat} (h : BySl w M p v ds) (hM : M ≤ w.heap.size) (hf : FrC p w w') : BySl w' M p v ds := by
  obtain ⟨A, c, h1, h2, h3, h4⟩ := h
  refine ⟨A, c, h1, h2, h3, fun i x hi => ?_⟩
  obtain ⟨k1, b, o, k2, k3, k4, k5⟩ := h4 i x hi
  exact ⟨k1, b, o, k2, k3, k4, (hf.cell (by omega) k3).trans k5⟩
theorem BySl.belM {w w' : World} {M p : Nat} {v : Value} {ds : List Nat} (h : BySl w M p v ds) (hb : Below M w w') : BySl w' M p v ds := by
  obtain ⟨A, c, h1, h2, h3, h4⟩ := h
  refine ⟨A, c, h1, h2, h3, fun i x hi => ?_⟩
  obtain ⟨k1, b, o, k2, k3, k4, k5⟩ := h4 i x hi
  exact ⟨k1, b, o, k2, k3, k4, (hb.cell (p := ⟨b, o + i, none⟩) k4).trans k5⟩
theorem Dr.belM {w w' : World} {M p : Nat} {ds : List Nat} (h : Dr w M p ds) (hb : Below M w w') : Dr w' M p ds := by
  obtain ⟨v, T, h1, h2⟩ := h.ex
  exact ⟨⟨v, T, (hb.block p h.lt).trans h1, h2.belM hb⟩, h.lt, Nat.le_trans h.le hb.size⟩
theorem Dr.bel {w w' : World} {M p : Nat} {ds : List Nat} (h : Dr w M p ds) (hb : Below w.heap.size w w') : Dr w' M p ds := h.belM (hb.mono h.le)
theorem Dr.al {w : World} {M p : Nat} {ds : List Nat} (h : Dr w M p ds) (o : Obj) : Dr (w.alloc o) M p ds := h.bel (S3.bal w o)
theorem Dr.ltw {w : World} {M p : Nat} {ds : List Nat} (h : Dr w M p ds) : p < w.heap.size := Nat.lt_of_lt_of_le h.lt h.le
/-- What next gives. -/
def NextP (w : World) (M p : Nat) (ds : List Nat) (e : Ending) (w' : World) : Prop := e = .returned (.int .i64 ((dNext ds).1 : Int)) ∧ Dr w' M p (dNext ds).2 ∧ FrC p w w'
theorem Dr.put {w : World} {M p : Nat} {ds ds' : List Nat} {v : Value} (h : Dr w M p ds) (hv : BySl w M p v ds') : Dr (w.setCell ⟨p, 0, none⟩ v) M p ds' := by
  obtain ⟨u, T, h1, _⟩ := h.ex
  refine ⟨⟨v, T, ?_, hv.fr h.le ((FrC.refl p w).set 0 v)⟩, h.lt, by simpa [World.setCell] using h.le⟩
  simp only [World.setCell, Array.getElem?_modify, if_true, h1]
  rfl
set_option maxRecDepth 100000 in
theorem next_nil {w : World} {M p : Nat} (h : Dr w M p []) : Calls Tryz.prog 55 #[.pointer (some ⟨p, 0, none⟩)] w (NextP w M p []) := by
  have H := Lib.hid h
  obtain ⟨v, T, _, h1, h5, A, c, rfl, h2, h3, h4⟩ := h.cells
  clear h4 h
  go_enter Tryz.func55, Tryz.ntmps55
  go_wp2_with fail
  go_ret
  exact ⟨rfl, H.out, FrC.refl _ _⟩
set_option maxRecDepth 100000 in
theorem next_cons {w : World} {M p x : Nat} {ds : List Nat} (h : Dr w M p (x :: ds)) : Calls Tryz.prog 55 #[.pointer (some ⟨p, 0, none⟩)] w (NextP w M p (x :: ds)) := by
  have H := Lib.hid h
  obtain ⟨v, T, h6, h1, h5, A, c, rfl, h2, h3, h4⟩ := h.cells
  clear h6 h
  obtain ⟨hx, b, o, rfl, hbp, hb, hc⟩ := h4 0 x rfl
  have hl : (x :: ds).length = ds.length + 1 := rfl
  rw [hl] at h1 h2
  have hx' : (x : Int) ≤ 255 := by omega
  rw [Nat.add_zero] at hc
  have H4 := Lib.hid h4
  clear h4
  by_cases hc1 : c = 1
  · subst hc1
    obtain rfl : ds = [] := List.eq_nil_of_length_eq_zero (by omega)
    simp only [List.length_nil] at h1 h2
    go_enter Tryz.func55, Tryz.ntmps55
    go_wp2_with fail
    go_ret
    exact ⟨rfl, H.out.put ⟨_, 0, rfl, Nat.le_refl _, by omega, fun i y hi => by simp [dNext] at hi⟩, (FrC.refl _ _).set _ _⟩
  · have hc2 : (c : Int) - 1 ≠ 0 := by omega
    go_enter Tryz.func55, Tryz.ntmps55
    go_wp2_with fail
    go_ret
    refine ⟨rfl, H.out.put ⟨_, _, rfl, by show ds.length ≤ c - 1; omega, by omega, fun i y hi => ?_⟩, (FrC.refl _ _).set _ _⟩
    obtain ⟨k1, b', o', k2, k3, k4, k5⟩ := H4.out (i + 1) y (by simpa [dNext] using hi)
    cases k2
    exact ⟨k1, b, o + 1, rfl, k3, k4, by rw [show o + 1 + i = o + (i + 1) by omega]; exact k5⟩
end Go.Proofs.YtoldhocdfkndbaaGreatDoor.E5

namespace Go.Proofs.YtoldhocdfkndbaaGreatDoor.E5
open Go Go.RowKit Go.Proofs.YtoldhocdfkndbaaGreatDoor

theorem next_calls {w : World} {M p : Nat} {ds : List Nat} (h : Dr w M p ds) : Calls Tryz.prog 55 #[.pointer (some ⟨p, 0, none⟩)] w (NextP w M p ds) := by
  cases ds with
  | nil => exact next_nil h
  | cons x ds => exact next_cons h
theorem tr_okE {t : Tr} (h : t.ok) : S3.OkE t.ex := by
  have nm : ∀ {s : List UInt8}, S3.nameB s = true → s.length ≤ 9223372036854775807 := fun {s} hs => by
    simp only [S3.nameB, Bool.and_eq_true, decide_eq_true_eq] at hs
    omega
  cases t with
  | num n => exact ⟨by show S3.okI 1; unfold S3.okI; decide, by show S3.okI 0; unfold S3.okI; decide, by show S3.okI (n : Int); unfold S3.okI; have h : n ≤ 9223372036854775807 := h; omega, Nat.zero_le _⟩
  | bool b => exact ⟨by show S3.okI 2; unfold S3.okI; decide, by show S3.okI 0; unfold S3.okI; decide, by cases b <;> (unfold S3.okI; decide), Nat.zero_le _⟩
  | len s => exact ⟨by show S3.okI 7; unfold S3.okI; decide, by show S3.okI 0; unfold S3.okI; decide, by show S3.okI 0; unfold S3.okI; decide, nm h⟩
  | var s => exact ⟨by show S3.okI 3; unfold S3.okI; decide, by show S3.okI 0; unfold S3.okI; decide, by show S3.okI 0; unfold S3.okI; decide, nm h⟩
  | un op a => exact ⟨by show S3.okI 4; unfold S3.okI; decide, by show S3.okI op; unfold S3.okI; have := h.1; omega, by show S3.okI 0; unfold S3.okI; decide, Nat.zero_le _⟩
  | idx s a => exact ⟨by show S3.okI 6; unfold S3.okI; decide, by show S3.okI 0; unfold S3.okI; decide, by show S3.okI 0; unfold S3.okI; decide, nm h.1⟩
  | bin op a b => exact ⟨by show S3.okI 5; unfold S3.okI; decide, by show S3.okI op; unfold S3.okI; have := h.1; omega, by show S3.okI 0; unfold S3.okI; decide, Nat.zero_le _⟩
theorem R5.frc {w w' : World} {p q : Nat} (h : R5 w q) (hq : q ≠ p) (hf : FrC p w w') : R5 w' q := by
  have hl := h.lt
  obtain ⟨a0, a1, a2, a3, a4, e⟩ := h
  exact ⟨a0, a1, a2, a3, a4, (hf.block q hl hq).trans e⟩
theorem er_frp {w w' : World} {c n : Nat} {l : List Ex} {v : Value} (h : S3.ER w (Rn n w.heap.size) l v) (hb : c < n) (hf : FrC c w w') : S3.ER w' (Rn n w'.heap.size) l v :=
  h.keep (fun _ hx => ⟨hx.1, Nat.lt_of_lt_of_le hx.2 hf.size⟩) fun _ i hx => hf.cell (i := i) hx.2 (by have := hx.1; omega)
/-- What Made gives. -/
def MadeP (w : World) (M p : Nat) (r : Tr × List Nat) (e : Ending) (w' : World) : Prop := ∃ A k c, e = .returned (S3.eV r.1.ex (.slice A k c)) ∧ S3.ER w' (Rn w.heap.size w'.heap.size) r.1.ex.args (.slice A k c) ∧ Dr w' M p r.2 ∧ FrC p w w'
/-- In the midst of Made: its result's cells, the draft. -/
structure Mid (w wr : World) (M p : Nat) (ds : List Nat) : Prop where
  r5 : R5 wr w.heap.size
  fr : FrC p w wr
  dr : Dr wr M p ds
  le : M ≤ w.heap.size
theorem Mid.ne {w wr : World} {M p : Nat} {ds : List Nat} (h : Mid w wr M p ds) : p < w.heap.size := Nat.lt_of_lt_of_le h.dr.lt h.le
theorem Mid.start {w : World} {M p : Nat} {ds : List Nat} (h : Dr w M p ds) (a0 a1 a2 a3 a4 : Value) : Mid w (w.alloc (.cells #[a0, a1, a2, a3, a4] 32)) M p ds :=
  ⟨R5.new w a0 a1 a2 a3 a4, (FrC.refl p w).al _, h.al _, h.le⟩
theorem Mid.step {w wr w' : World} {M p : Nat} {ds ds' : List Nat} (h : Mid w wr M p ds) (hd : Dr w' M p ds') (hf : FrC p wr w') : Mid w w' M p ds' :=
  ⟨h.r5.frc (by have := h.ne; omega) hf, h.fr.trans hf, hd, h.le⟩
theorem Mid.bel {w wr w' : World} {M p : Nat} {ds : List Nat} (h : Mid w wr M p ds) (hb : Below wr.heap.size wr w') : Mid w w' M p ds :=
  h.step (h.dr.bel hb) (FrC.of hb)
theorem Mid.al {w wr : World} {M p : Nat} {ds : List Nat} (h : Mid w wr M p ds) (o : Obj) : Mid w (wr.alloc o) M p ds := h.bel (S3.bal wr o)
theorem put5_at (w : World) (q : Nat) (a0 a1 a2 a3 a4 : Value) : Below q w (put5 w q a0 a1 a2 a3 a4) := by
  have hb : ∀ u : World, ∀ o v, Below q u (u.setCell ⟨q, o, none⟩ v) := fun u o v => (Below.refl _ u).setCell (p := ⟨q, o, none⟩) (Nat.le_refl _) v
  exact ((((hb _ _ _).trans (hb _ _ _)).trans (hb _ _ _)).trans (hb _ _ _)).trans (hb _ _ _)
theorem Mid.put {w wr : World} {M p : Nat} {ds : List Nat} (h : Mid w wr M p ds) (a0 a1 a2 a3 a4 : Value) : FrC p w (put5 wr w.heap.size a0 a1 a2 a3 a4) ∧ Dr (put5 wr w.heap.size a0 a1 a2 a3 a4) M p ds := by
  have hb5 := put5_at wr w.heap.size a0 a1 a2 a3 a4
  exact ⟨⟨hb5.os.trans h.fr.os, hb5.tape.trans h.fr.tape, hb5.output.trans h.fr.output, Nat.le_trans h.fr.size hb5.size, fun k hk hp => (hb5.block k hk).trans (h.fr.block k hk hp)⟩, h.dr.belM (hb5.mono h.le)⟩
theorem Mid.done {w wr : World} {M p : Nat} {ds : List Nat} (h : Mid w wr M p ds) {t : Tr} {A : Option Addr} {k c n : Nat} (hn : w.heap.size < n) (hE : S3.ER wr (Rn n wr.heap.size) t.ex.args (.slice A k c)) (a0 a1 a2 a3 a4 : Value) :
    MadeP w M p (t, ds) (.returned (S3.eV t.ex (.slice A k c))) (put5 wr w.heap.size a0 a1 a2 a3 a4) :=
  ⟨A, k, c, rfl, er_mono (put5_er hE hn a0 a1 a2 a3 a4) (by omega) (Nat.le_refl _), (h.put a0 a1 a2 a3 a4).2, (h.put a0 a1 a2 a3 a4).1⟩
open S3 in
theorem erN_two {w : World} {a b : Ex} {va vb : Value} {n c : Nat} (hn : n ≤ w.heap.size) (ha : OkE a) (hb : OkE b) (h1 : ER w (Rn n w.heap.size) a.args va) (h2 : ER w (Rn n w.heap.size) b.args vb) (T : TypeId) (ws : List Value) (hw : ws = eC a va ++ eC b vb) :
    ER (w.alloc (.cells ws.toArray T)) (Rn n (w.alloc (.cells ws.toArray T)).heap.size) [a, b] (.slice (some ⟨w.heap.size, 0, none⟩) 2 c) := by
  subst hw
  have k := fun (i : Nat) (u : Value) (h : (eC a va ++ eC b vb)[i]? = some u) => newCell w (eC a va ++ eC b vb).toArray T i u (by rw [List.getElem?_toArray]; exact h)
  have up : ∀ {l : List Ex} {v : Value}, ER w (Rn n w.heap.size) l v → ER (w.alloc (.cells (eC a va ++ eC b vb).toArray T)) (Rn n (w.alloc (.cells (eC a va ++ eC b vb).toArray T)).heap.size) l v := fun h => er_bel h (bal w _)
  refine .mk [a, b] (some ⟨w.heap.size, 0, none⟩) c (fun i => if i = 0 then va else vb) (by simp) (fun i e he => ?_) (fun i e he => ?_)
  · match i, he with
    | 0, he => cases he; exact ⟨_, 0, rfl, ⟨hn, by simp⟩, ha, ⟨k 0 _ rfl, k 1 _ rfl, k 2 _ rfl, k 3 _ rfl, k 4 _ rfl⟩⟩
    | 1, he => cases he; exact ⟨_, 0, rfl, ⟨hn, by simp⟩, hb, ⟨k 5 _ rfl, k 6 _ rfl, k 7 _ rfl, k 8 _ rfl, k 9 _ rfl⟩⟩
    | i + 2, he => simp at he
  · match i, he with
    | 0, he => cases he; exact up h1
    | 1, he => cases he; exact up h2
    | i + 2, he => simp at he
open S3 in
theorem erN_one {w : World} {a : Ex} {va : Value} {n c : Nat} (hn : n ≤ w.heap.size) (ha : OkE a) (h1 : ER w (Rn n w.heap.size) a.args va) (T : TypeId) (ws : List Value) (hw : ws = eC a va) :
    ER (w.alloc (.cells ws.toArray T)) (Rn n (w.alloc (.cells ws.toArray T)).heap.size) [a] (.slice (some ⟨w.heap.size, 0, none⟩) 1 c) := by
  subst hw
  have k := fun (i : Nat) (u : Value) (h : (eC a va)[i]? = some u) => newCell w (eC a va).toArray T i u (by rw [List.getElem?_toArray]; exact h)
  refine .mk [a] (some ⟨w.heap.size, 0, none⟩) c (fun _ => va) (by simp) (fun i e he => ?_) (fun i e he => ?_)
  · match i, he with
    | 0, he => cases he; exact ⟨_, 0, rfl, ⟨hn, by simp⟩, ha, ⟨k 0 _ rfl, k 1 _ rfl, k 2 _ rfl, k 3 _ rfl, k 4 _ rfl⟩⟩
    | i + 1, he => simp at he
  · match i, he with
    | 0, he => cases he; exact er_bel h1 (bal w _)
    | i + 1, he => simp at he
/-- pair, of expressions in new memory. -/
def PairN (op : Int) (a b : Ex) (n : Nat) (w : World) (e : Ending) (w' : World) : Prop := ∃ A c, e = .returned (S3.eV (pE op a b) (.slice A 2 c)) ∧ Below w.heap.size w w' ∧ S3.ER w' (Rn n w'.heap.size) [a, b] (.slice A 2 c)
set_option maxHeartbeats 1000000 in
theorem pairN_calls (op : Int) (a b : Ex) (ha : S3.OkE a) (hb : S3.OkE b) (va vb : Value) (n : Nat) (w : World) (hn : n ≤ w.heap.size) (h1 : S3.ER w (Rn n w.heap.size) a.args va) (h2 : S3.ER w (Rn n w.heap.size) b.args vb) :
    Calls Tryz.prog 50 #[.int .i64 op, S3.eV a va, S3.eV b vb] w (PairN op a b n w) := by
  obtain ⟨A1, c1, rfl⟩ := S3.ER.slice h1
  obtain ⟨A2, c2, rfl⟩ := S3.ER.slice h2
  have H1 := Lib.hid h1
  have H2 := Lib.hid h2
  clear h1 h2
  go_enter Tryz.func50, Tryz.ntmps50
  go_wp2_with fail
  have hb0 := S3.bal2 w (S3.eO a (.slice A1 a.args.length c1)) (S3.eO b (.slice A2 b.args.length c2))
  have hb2 := hb0.alloc hb0.size (.cells #[.int .i64 5, .int .i64 op, .int .i64 0, .string ⟨#[]⟩, .slice (some ⟨w.heap.size + 1 + 1 + 1, 0, none⟩) 2 2] 32)
  refine bodyPost_ret (v := S3.eV (pE op a b) (.slice (some ⟨w.heap.size + 1 + 1 + 1, 0, none⟩) 2 2)) (by simp [results, Tryz.results50, go_sem, pE]) rfl ⟨_, _, rfl, hb2.alloc hb2.size _, ?_⟩
  have := erN_two (c := 2) (Nat.le_trans hn hb2.size) ha hb (er_bel H1.out hb2) (er_bel H2.out hb2) 32 _ rfl
  rwa [show (((w.alloc (S3.eO a (.slice A1 a.args.length c1))).alloc (S3.eO b (.slice A2 b.args.length c2))).alloc (.cells #[.int .i64 5, .int .i64 op, .int .i64 0, .string ⟨#[]⟩, .slice (some ⟨w.heap.size + 1 + 1 + 1, 0, none⟩) 2 2] 32)).heap.size = w.heap.size + 1 + 1 + 1 by simp] at this
end Go.Proofs.YtoldhocdfkndbaaGreatDoor.E5
