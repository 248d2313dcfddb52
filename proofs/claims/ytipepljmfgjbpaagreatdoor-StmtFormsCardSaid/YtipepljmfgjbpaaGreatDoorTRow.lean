/-
  The law's three rows: tokens, the closing ones, where the braces stand.
  StmtDeep, its examples' contract given.
  StmtDeep: the law's walk, its examples' contract given.
-/
import Derived.Test.YtipepljmfgjbpaaGreatDoorTForm
import Derived.Test.YtipepljmfgjbpaaGreatDoorTTok
import Derived.Test.YtipepljmfgjbpaaGreatDoorTEq
import Derived.Test.YtipepljmfgjbpaaGreatDoorERow
import Derived.Lib.AppendZeros
import Derived.BigRegion
import Derived.Deep.RegionWith
import Derived.Deep.RegionHeld3
namespace Go.Proofs.YtipepljmfgjbpaaGreatDoor.E6
open Go Go.RowKit Go.Proofs.YtipepljmfgjbpaaGreatDoor Go.Proofs.YtipepljmfgjbpaaGreatDoor.E5

theorem gr_kA {base : Nat} {l : TL} {v : Value} {w : World} (h : S3.GrI kT base l v w) : S3.GrI kA base l v w := by
  obtain ⟨V, h1, h2, h3⟩ := h
  have e : (kA.rows l fun _ => 0) = kT.rows l V := rfl
  refine ⟨fun _ => 0, ?_, fun j a hj => Nat.le_trans (h2 j a hj) (by decide), h3⟩
  rw [e]
  exact h1
def bsV (bs : List Nat) : List Value := bs.map fun (n : Nat) => Value.int .i64 (n : Int)
structure Dp (w wr : World) (T C : TL) (bs : List Nat) (vL vC vB : Value) : Prop where
  l : S3.GrI kA w.heap.size T vL wr
  c : S3.GrI kA w.heap.size C vC wr
  b : wr.ownsRow w.heap.size 3 1 vB bs.length (bsV bs)
  dlc : ∀ b, vL.ownBlock = some b → vC.ownBlock ≠ some b
  dlb : ∀ b, vL.ownBlock = some b → vB.ownBlock ≠ some b
  dcb : ∀ b, vC.ownBlock = some b → vB.ownBlock ≠ some b
  bel : Below w.heap.size w wr
theorem Dp.start (w w0 : World) (hb : Below w.heap.size w w0) : Dp w w0 [] [] [] (.slice none 0 0) (.slice none 0 0) (.slice none 0 0) :=
  ⟨S3.GrI.start kA hb.size (fun _ => 0), S3.GrI.start kA hb.size (fun _ => 0), World.ownsRow_nil _ _ _ _, fun b e => (by cases e), fun b e => (by cases e), fun b e => (by cases e), hb⟩
theorem Dp.bl {w wr w' : World} {T C : TL} {bs : List Nat} {vL vC vB : Value} (h : Dp w wr T C bs vL vC vB) (hb : Below wr.heap.size wr w') : Dp w w' T C bs vL vC vB :=
  ⟨h.l.bel hb, h.c.bel hb, own_keep h.b fun g hg => hb.block g (h.b.lt g hg).2, h.dlc, h.dlb, h.dcb, h.bel.trans (hb.mono h.bel.size)⟩
end Go.Proofs.YtipepljmfgjbpaaGreatDoor.E6

namespace Go.Proofs.YtipepljmfgjbpaaGreatDoor.E6
open Go Go.RowKit Go.Proofs.YtipepljmfgjbpaaGreatDoor Go.Proofs.YtipepljmfgjbpaaGreatDoor.E5

def TokP (W : World) (base n : Nat) (tl : TL) (E : Ending) (w' : World) : Prop :=
  ∃ A c, E = .returned (.slice A n c) ∧ S3.GrI kA base tl (.slice A n c) w' ∧ TokL w' w'.heap.size (.slice A n c) tl ∧ Below W.heap.size W w'
theorem tok_new (W : World) (ws : List Bytes) (h : okW ws = true) :
    Calls Tryz.prog 10 #[.slice (some ⟨W.heap.size, 0, none⟩) ws.length ws.length] (W.alloc (.cells (ws.map fun s => Value.string (B s)).toArray 9)) (TokP W (W.heap.size + 1) ws.length (ws.map wtk)) := by
  refine (tokens_own (strL_new W ws 9 h)).mono fun E w' ⟨A, c, h1, h2, h3⟩ => ?_
  have hl : ws.length ≤ 1000 := by unfold okW at h; simp only [Bool.and_eq_true, decide_eq_true_eq] at h; exact h.1
  rw [S3.sz1] at h2
  exact ⟨A, c, h1, gr_kA h2, tokL_gr h2 (by rw [List.length_map]; omega), after (S3.bal W _) h3⟩
theorem wt_op : [[123]].map wtk = ([(4, [123])] : TL) := by kernel_rfl
theorem wt_sh : [[125]].map wtk = ([(4, [125])] : TL) := by kernel_rfl
theorem tok_op (W : World) : Calls Tryz.prog 10 #[.slice (some ⟨W.heap.size, 0, none⟩) 1 1] (W.alloc (.cells #[.string ⟨#[123]⟩] 9)) (TokP W (W.heap.size + 1) 1 [(4, [123])]) := by rw [← wt_op]; exact tok_new W [[123]] (by decide)
theorem tok_sh (W : World) : Calls Tryz.prog 10 #[.slice (some ⟨W.heap.size, 0, none⟩) 1 1] (W.alloc (.cells #[.string ⟨#[125]⟩] 9)) (TokP W (W.heap.size + 1) 1 [(4, [125])]) := by rw [← wt_sh]; exact tok_new W [[125]] (by decide)
/-- Behind the closing ones. -/
structure Dq (w wr : World) (T : TL) (bs : List Nat) (vL vB : Value) : Prop where
  l : S3.GrI kA w.heap.size T vL wr
  b : ∀ (k n : Nat), bs[k]? = some n → ∃ g c, vB = .slice (some ⟨g, 0, none⟩) bs.length c ∧ g < wr.heap.size ∧ wr.cell? ⟨g, k, none⟩ = some (.int .i64 (n : Int))
  bel : Below w.heap.size w wr
theorem Dq.bl {w wr w' : World} {T : TL} {bs : List Nat} {vL vB : Value} (h : Dq w wr T bs vL vB) (hb : Below wr.heap.size wr w') : Dq w w' T bs vL vB :=
  ⟨h.l.bel hb, fun k n hk => by
    obtain ⟨g, c, e, h1, h2⟩ := h.b k n hk
    exact ⟨g, c, e, Nat.lt_of_lt_of_le h1 hb.size, (hb.cell (p := ⟨g, k, none⟩) h1).trans h2⟩, h.bel.trans (hb.mono h.bel.size)⟩
end Go.Proofs.YtipepljmfgjbpaaGreatDoor.E6

namespace Go.Proofs.YtipepljmfgjbpaaGreatDoor.E6
open Go Go.RowKit Go.Proofs.YtipepljmfgjbpaaGreatDoor Go.Proofs.YtipepljmfgjbpaaGreatDoor.E5

theorem zs_box (w : World) : SIs w (Rn w.heap.size w.heap.size) zS (.slice none 0 0) (.slice none 0 0) (.slice none 0 0) := by
  refine ⟨?_, S3.ER.nil none 0, S3.SR.nil none 0, S3.SR.nil none 0⟩
  constructor
  · show S3.okI 0; unfold S3.okI; omega
  · show S3.okI 0; unfold S3.okI; omega
  · show S3.okI 0; unfold S3.okI; omega
  · exact Nat.zero_le _
  · exact Nat.zero_le _
end Go.Proofs.YtipepljmfgjbpaaGreatDoor.E6
