/-
  PLAIN WORDS FOR StmtForms AND StmtNeeded: statements that are made by bytes, and their tokens. No program is named here.
  The maker of statements in memory: its block, the tokens' row that grows, what stays.
  The maker of statements: byte, add, name: contracts. Written by gen6_mk.py.
  The maker of statements: name: contract. Written by gen6_mkn.py.
-/
import Derived.Test.YtipepljmfgjbpaaGreatDoorTForm
import Derived.Test.YtipepljmfgjbpaaGreatDoorERow
import Derived.Test.YtipepljmfgjbpaaGreatDoorTTok
import Derived.BigRegion
import Derived.Lib.AppendZeros
import Derived.Deep.RegionWith
import Derived.Deep.RegionHeld3
import Derived.Laws.BytesArg
namespace Go.Proofs.YtipepljmfgjbpaaGreatDoor.E6
open Go Go.Proofs.YtipepljmfgjbpaaGreatDoor Go.Proofs.YtipepljmfgjbpaaGreatDoor.E5

def hdB : List Nat → Nat
  | [] => 0
  | b :: _ => b
def tlB : List Nat → List Nat
  | [] => []
  | _ :: r => r
def Byt (cs : List Nat) : Prop := ∀ x ∈ cs, x < 256
theorem Byt.hd {cs : List Nat} (h : Byt cs) : hdB cs < 256 := by
  cases cs with
  | nil => simp [hdB]
  | cons b r => exact h b (by simp)
theorem Byt.tl {cs : List Nat} (h : Byt cs) : Byt (tlB cs) := by
  cases cs with
  | nil => exact h
  | cons b r => exact fun x hx => h x (by simp [tlB] at hx; simp [hx])
/-- The name of a byte. -/
def nmW (b : Nat) : Bytes := UInt8.ofNat (97 + b % 26) :: (if 200 ≤ b then [95, 57, 90] else [])
theorem nmW_all : ∀ b : Fin 256, S3.nameB (nmW b.1) = true := by decide +kernel
theorem nmW_ok {b : Nat} (h : b < 256) : S3.nameB (nmW b) = true := nmW_all ⟨b, h⟩
def leafT (k b : Nat) (r : List Nat) : Tr × List Nat :=
  if k = 0 then (.num (b / 7 % 10), r) else if k = 1 then (.bool (decide (b / 7 % 2 = 1)), r) else if k = 2 then (.var (nmW (hdB r)), tlB r) else (.len (nmW (hdB r)), tlB r)
/-- An expression by bytes, at most n + 1 deep. -/
def mkT : Nat → List Nat → Tr × List Nat
  | 0, cs => leafT (hdB cs % 4) (hdB cs) (tlB cs)
  | n + 1, cs =>
    if hdB cs % 7 ≤ 3 then leafT (hdB cs % 7) (hdB cs) (tlB cs)
    else if hdB cs % 7 = 4 then (.idx (nmW (hdB (tlB cs))) (mkT n (tlB (tlB cs))).1, (mkT n (tlB (tlB cs))).2)
    else if hdB cs % 7 = 5 then (.un (14 + ((hdB cs / 7 % 2 : Nat) : Int)) (mkT n (tlB cs)).1, (mkT n (tlB cs)).2)
    else (.bin (1 + ((hdB cs / 7 % 13 : Nat) : Int)) (mkT n (tlB cs)).1 (mkT n (mkT n (tlB cs)).2).1, (mkT n (mkT n (tlB cs)).2).2)
theorem leafT_ok {k b : Nat} {r : List Nat} (hr : Byt r) : (leafT k b r).1.ok ∧ (leafT k b r).1.lev = 1 ∧ Byt (leafT k b r).2 := by
  unfold leafT
  split
  · exact ⟨by show b / 7 % 10 ≤ _; omega, rfl, hr⟩
  split
  · exact ⟨trivial, rfl, hr⟩
  split
  · exact ⟨nmW_ok hr.hd, rfl, hr.tl⟩
  · exact ⟨nmW_ok hr.hd, rfl, hr.tl⟩
theorem mkT_ok : ∀ (n : Nat) (cs : List Nat), Byt cs → (mkT n cs).1.ok ∧ (mkT n cs).1.lev ≤ n + 1 ∧ Byt (mkT n cs).2 := by
  intro n
  induction n with
  | zero => intro cs h; have := leafT_ok (k := hdB cs % 4) (b := hdB cs) h.tl; rw [mkT]; exact ⟨this.1, by omega, this.2.2⟩
  | succ n ih =>
    intro cs h
    rw [mkT]
    split
    · have := leafT_ok (k := hdB cs % 7) (b := hdB cs) h.tl; exact ⟨this.1, by omega, this.2.2⟩
    split
    · obtain ⟨h1, h2, h3⟩ := ih _ h.tl.tl
      exact ⟨⟨nmW_ok h.tl.hd, h1⟩, by simp only [Tr.lev]; omega, h3⟩
    split
    · obtain ⟨h1, h2, h3⟩ := ih _ h.tl
      exact ⟨⟨by omega, h1⟩, by simp only [Tr.lev]; omega, h3⟩
    · obtain ⟨h1, h2, h3⟩ := ih _ h.tl
      obtain ⟨k1, k2, k3⟩ := ih _ h3
      exact ⟨⟨⟨by omega, by omega⟩, h1, k1⟩, by simp only [Tr.lev]; omega, k3⟩
theorem mkT_OkT {n : Nat} (hn : n ≤ 4) {cs : List Nat} (h : Byt cs) : OkT (mkT n cs).1 := ⟨(mkT_ok n cs h).1, by have := (mkT_ok n cs h).2.1; omega⟩
/-- Arguments by bytes. -/
def mkAs : Nat → List Nat → List Tr × List Nat
  | 0, cs => ([], cs)
  | n + 1, cs => ((mkT 1 cs).1 :: (mkAs n (mkT 1 cs).2).1, (mkAs n (mkT 1 cs).2).2)
theorem mkAs_ok : ∀ (n : Nat) (cs : List Nat), Byt cs → (∀ t ∈ (mkAs n cs).1, OkT t) ∧ (mkAs n cs).1.length = n ∧ Byt (mkAs n cs).2 := by
  intro n
  induction n with
  | zero => intro cs h; exact ⟨(fun t ht => by cases ht), rfl, h⟩
  | succ n ih =>
    intro cs h
    obtain ⟨h1, h2, h3⟩ := ih _ (mkT_ok 1 cs h).2.2
    rw [mkAs]
    exact ⟨fun t ht => by
      rcases List.mem_cons.1 ht with rfl | ht
      · exact mkT_OkT (by omega) h
      · exact h1 t ht, by simp [h2], h3⟩
/-- A statement, its tokens, how many are left, the bytes. -/
structure Mk where
  s : St
  tk : TL
  left : Nat
  cs : List Nat
structure MkB where
  ps : PL
  left : Nat
  cs : List Nat
def mkBl (f : Nat → List Nat → Mk) : Nat → Nat → List Nat → MkB
  | 0, left, cs => ⟨[], left, cs⟩
  | n + 1, left, cs =>
    if left = 0 then ⟨[], left, cs⟩
    else ⟨((f left cs).s, (f left cs).tk) :: (mkBl f n (f left cs).left (f left cs).cs).ps, (mkBl f n (f left cs).left (f left cs).cs).left, (mkBl f n (f left cs).left (f left cs).cs).cs⟩
def mkBlk (f : Nat → List Nat → Mk) (left : Nat) (cs : List Nat) : MkB := mkBl f (hdB cs % 4) left (tlB cs)
/-- A simple statement by its kind, the byte and the bytes behind it. -/
def mkSim (k b left : Nat) (r : List Nat) : Mk :=
  if k = 1 then
    if 128 ≤ b then ⟨sVar (nmW (hdB r)) (1 + ((b / 10 % 3 : Nat) : Int)) [(mkT 2 (tlB r)).1.ex], (3, wVar) :: (1, nmW (hdB r)) :: (3, wordT (1 + ((b / 10 % 3 : Nat) : Int))) :: tEq :: ((mkT 2 (tlB r)).1.tk ++ [tSemi]), left, (mkT 2 (tlB r)).2⟩
    else ⟨sVar (nmW (hdB r)) (1 + ((b / 10 % 3 : Nat) : Int)) [], [(3, wVar), (1, nmW (hdB r)), (3, wordT (1 + ((b / 10 % 3 : Nat) : Int))), tSemi], left, tlB r⟩
  else if k = 2 then ⟨sSet (nmW (hdB r)) (mkT 2 (tlB r)).1.ex, (1, nmW (hdB r)) :: tEq :: ((mkT 2 (tlB r)).1.tk ++ [tSemi]), left, (mkT 2 (tlB r)).2⟩
  else if k = 3 then ⟨sStore (nmW (hdB r)) (mkT 2 (tlB r)).1.ex (mkT 2 (mkT 2 (tlB r)).2).1.ex, (1, nmW (hdB r)) :: (4, [91]) :: ((mkT 2 (tlB r)).1.tk ++ (4, [93]) :: tEq :: ((mkT 2 (mkT 2 (tlB r)).2).1.tk ++ [tSemi])), left, (mkT 2 (mkT 2 (tlB r)).2).2⟩
  else if k = 4 then ⟨sNew (nmW (hdB r)) (mkT 2 (tlB r)).1.ex, (1, nmW (hdB r)) :: tEq :: (3, wNew) :: ((mkT 2 (tlB r)).1.tk ++ [tSemi]), left, (mkT 2 (tlB r)).2⟩
  else if k = 5 then ⟨sRead (nmW (hdB r)), [(3, wRead), (1, nmW (hdB r)), tSemi], left, tlB r⟩
  else if k = 6 then ⟨sPrint (mkT 2 r).1.ex, (3, wPrint) :: ((mkT 2 r).1.tk ++ [tSemi]), left, (mkT 2 r).2⟩
  else if k = 7 then
    if 128 ≤ b then ⟨sCall (nmW (hdB r)) (nmW (hdB (tlB r))) ((mkAs (hdB (tlB (tlB r)) % 4) (tlB (tlB (tlB r)))).1.map Tr.ex), (1, nmW (hdB r)) :: tEq :: (1, nmW (hdB (tlB r))) :: (argsT (mkAs (hdB (tlB (tlB r)) % 4) (tlB (tlB (tlB r)))).1 ++ [tSemi]), left, (mkAs (hdB (tlB (tlB r)) % 4) (tlB (tlB (tlB r)))).2⟩
    else ⟨sCall [] (nmW (hdB r)) ((mkAs (hdB (tlB r) % 4) (tlB (tlB r))).1.map Tr.ex), (1, nmW (hdB r)) :: (argsT (mkAs (hdB (tlB r) % 4) (tlB (tlB r))).1 ++ [tSemi]), left, (mkAs (hdB (tlB r) % 4) (tlB (tlB r))).2⟩
  else
    if 128 ≤ b then ⟨sRet [(mkT 2 r).1.ex], (3, wReturn) :: ((mkT 2 r).1.tk ++ [tSemi]), left, (mkT 2 r).2⟩
    else ⟨sRet [], [(3, wReturn), tSemi], left, r⟩
/-- A statement with blocks, the blocks by f. -/
def mkBr (f : Nat → List Nat → Mk) (k b left : Nat) (r : List Nat) : Mk :=
  if k = 9 then
    if 128 ≤ b then ⟨sIf (mkT 2 r).1.ex (PL.st (mkBlk f left (mkT 2 r).2).ps) (PL.st (mkBlk f (mkBlk f left (mkT 2 r).2).left (mkBlk f left (mkT 2 r).2).cs).ps), (3, wIf) :: ((mkT 2 r).1.tk ++ blkT (mkBlk f left (mkT 2 r).2).ps ++ (3, wElse) :: blkT (mkBlk f (mkBlk f left (mkT 2 r).2).left (mkBlk f left (mkT 2 r).2).cs).ps), (mkBlk f (mkBlk f left (mkT 2 r).2).left (mkBlk f left (mkT 2 r).2).cs).left, (mkBlk f (mkBlk f left (mkT 2 r).2).left (mkBlk f left (mkT 2 r).2).cs).cs⟩
    else ⟨sIf (mkT 2 r).1.ex (PL.st (mkBlk f left (mkT 2 r).2).ps) [], (3, wIf) :: ((mkT 2 r).1.tk ++ blkT (mkBlk f left (mkT 2 r).2).ps), (mkBlk f left (mkT 2 r).2).left, (mkBlk f left (mkT 2 r).2).cs⟩
  else ⟨sWhile (mkT 2 r).1.ex (PL.st (mkBlk f left (mkT 2 r).2).ps), (3, wWhile) :: ((mkT 2 r).1.tk ++ blkT (mkBlk f left (mkT 2 r).2).ps), (mkBlk f left (mkT 2 r).2).left, (mkBlk f left (mkT 2 r).2).cs⟩
/-- The kind that a byte names, with blocks at most so deep. -/
def kindM (deep b : Nat) : Nat := if deep = 0 ∧ 9 ≤ 1 + b % 10 then 6 else 1 + b % 10
/-- A statement by bytes, with blocks at most so deep. -/
def mkS : Nat → Nat → List Nat → Mk
  | 0, left, cs => mkSim (kindM 0 (hdB cs)) (hdB cs) (left - 1) (tlB cs)
  | n + 1, left, cs => if kindM (n + 1) (hdB cs) < 9 then mkSim (kindM (n + 1) (hdB cs)) (hdB cs) (left - 1) (tlB cs) else mkBr (mkS n) (kindM (n + 1) (hdB cs)) (hdB cs) (left - 1) (tlB cs)

/-! ### they are statements -/
theorem mkSim_ok {k b left : Nat} {r : List Nat} (hr : Byt r) (deep : Nat) : FS deep (mkSim k b left r).s (mkSim k b left r).tk ∧ Byt (mkSim k b left r).cs := by
  have hm : 1 ≤ (1 + ((b / 10 % 3 : Nat) : Int)) ∧ (1 + ((b / 10 % 3 : Nat) : Int)) ≤ 3 := by omega
  have t0 := fun (cs : List Nat) (h : Byt cs) => mkT_OkT (n := 2) (by omega) h
  have t1 := fun (cs : List Nat) (h : Byt cs) => (mkT_ok 2 cs h).2.2
  unfold mkSim
  split
  · split
    · exact ⟨fs_var (nmW_ok hr.hd) hm (t0 _ hr.tl) deep, t1 _ hr.tl⟩
    · exact ⟨fs_var0 (nmW_ok hr.hd) hm deep, hr.tl⟩
  split
  · exact ⟨fs_set (nmW_ok hr.hd) (t0 _ hr.tl) deep, t1 _ hr.tl⟩
  split
  · exact ⟨fs_store (nmW_ok hr.hd) (t0 _ hr.tl) (t0 _ (t1 _ hr.tl)) deep, t1 _ (t1 _ hr.tl)⟩
  split
  · exact ⟨fs_new (nmW_ok hr.hd) (t0 _ hr.tl) deep, t1 _ hr.tl⟩
  split
  · exact ⟨fs_read (nmW_ok hr.hd) deep, hr.tl⟩
  split
  · exact ⟨fs_print (t0 _ hr) deep, t1 _ hr⟩
  split
  · split
    · obtain ⟨h1, _, h3⟩ := mkAs_ok (hdB (tlB (tlB r)) % 4) _ hr.tl.tl.tl
      exact ⟨fs_call (nmW_ok hr.hd) (nmW_ok hr.tl.hd) h1 deep, h3⟩
    · obtain ⟨h1, _, h3⟩ := mkAs_ok (hdB (tlB r) % 4) _ hr.tl.tl
      exact ⟨fs_call0 (nmW_ok hr.hd) h1 deep, h3⟩
  split
  · exact ⟨fs_ret (t0 _ hr) deep, t1 _ hr⟩
  · exact ⟨fs_ret0 deep, hr⟩
theorem mkBl_ok {f : Nat → List Nat → Mk} {deep : Nat} (hf : ∀ left cs, Byt cs → FS deep (f left cs).s (f left cs).tk ∧ Byt (f left cs).cs) : ∀ (n left : Nat) (cs : List Nat), Byt cs → Blk deep (mkBl f n left cs).ps ∧ Byt (mkBl f n left cs).cs := by
  intro n
  induction n with
  | zero => intro left cs h; exact ⟨(fun p hp => by cases hp), h⟩
  | succ n ih =>
    intro left cs h
    rw [mkBl]
    split
    · exact ⟨(fun p hp => by cases hp), h⟩
    · obtain ⟨h1, h2⟩ := hf left cs h
      obtain ⟨h3, h4⟩ := ih (f left cs).left _ h2
      exact ⟨fun p hp => by
        rcases List.mem_cons.1 hp with rfl | hp
        · exact h1
        · exact h3 p hp, h4⟩
theorem mkBlk_ok {f : Nat → List Nat → Mk} {deep : Nat} (hf : ∀ left cs, Byt cs → FS deep (f left cs).s (f left cs).tk ∧ Byt (f left cs).cs) {left : Nat} {cs : List Nat} (h : Byt cs) : Blk deep (mkBlk f left cs).ps ∧ Byt (mkBlk f left cs).cs := mkBl_ok hf _ _ _ h.tl
theorem mkBr_ok {f : Nat → List Nat → Mk} {deep : Nat} (hf : ∀ left cs, Byt cs → FS deep (f left cs).s (f left cs).tk ∧ Byt (f left cs).cs) {k b left : Nat} {r : List Nat} (hr : Byt r) : FS (deep + 1) (mkBr f k b left r).s (mkBr f k b left r).tk ∧ Byt (mkBr f k b left r).cs := by
  have t0 := mkT_OkT (n := 2) (by omega) hr
  have t1 := (mkT_ok 2 r hr).2.2
  obtain ⟨h1, h2⟩ := mkBlk_ok hf (left := left) t1
  unfold mkBr
  split
  · split
    · obtain ⟨h3, h4⟩ := mkBlk_ok hf (left := (mkBlk f left (mkT 2 r).2).left) h2
      exact ⟨fs_ifelse t0 h1 h3, h4⟩
    · exact ⟨fs_if t0 h1, h2⟩
  · exact ⟨fs_while t0 h1, h2⟩
theorem mkS_ok : ∀ (n left : Nat) (cs : List Nat), Byt cs → FS n (mkS n left cs).s (mkS n left cs).tk ∧ Byt (mkS n left cs).cs := by
  intro n
  induction n with
  | zero => intro left cs h; rw [mkS]; exact mkSim_ok h.tl 0
  | succ n ih =>
    intro left cs h
    rw [mkS]
    split
    · exact mkSim_ok h.tl (n + 1)
    · exact mkBr_ok (fun left cs h => ih left cs h) h.tl
end Go.Proofs.YtipepljmfgjbpaaGreatDoor.E6

namespace Go.Proofs.YtipepljmfgjbpaaGreatDoor.E6
open Go Go.RowKit Go.Proofs.YtipepljmfgjbpaaGreatDoor Go.Proofs.YtipepljmfgjbpaaGreatDoor.E5

/-- A block that the tokens of the maker at p stand in. -/
def outB (W : World) (p k : Nat) : Prop := ∃ vo, W.cell? ⟨p, 3, none⟩ = some vo ∧ vo.ownBlock = some k
/-- What stays while the maker at p works. -/
structure FrM (p : Nat) (W W' : World) : Prop where
  os : W'.os = W.os
  tape : W'.tape = W.tape
  output : W'.output = W.output
  size : W.heap.size ≤ W'.heap.size
  keep : ∀ k, k < W.heap.size → k ≠ p → ¬ outB W p k → W'.heap[k]? = W.heap[k]?
  out : ∀ k, outB W' p k → outB W p k ∨ W.heap.size ≤ k
theorem FrM.refl (p : Nat) (W : World) : FrM p W W := ⟨rfl, rfl, rfl, Nat.le_refl _, fun _ _ _ _ => rfl, fun _ h => .inl h⟩
theorem FrM.trans {p : Nat} {W W' W'' : World} (h : FrM p W W') (h' : FrM p W' W'') : FrM p W W'' :=
  ⟨h'.os.trans h.os, h'.tape.trans h.tape, h'.output.trans h.output, Nat.le_trans h.size h'.size, fun k h1 h2 h3 => (h'.keep k (Nat.lt_of_lt_of_le h1 h.size) h2 (fun e => (h.out k e).elim h3 (by omega))).trans (h.keep k h1 h2 h3), fun k e => by
    rcases h'.out k e with h1 | h1
    · exact h.out k h1
    · exact .inr (Nat.le_trans h.size h1)⟩
theorem FrM.bel {p : Nat} {W W' : World} (h : Below W.heap.size W W') (hp : p < W.heap.size) : FrM p W W' :=
  ⟨h.os, h.tape, h.output, h.size, fun k h1 _ _ => h.block k h1, fun _ ⟨vo, h1, h2⟩ => .inl ⟨vo, (h.cell (p := ⟨p, 3, none⟩) hp).symm.trans h1, h2⟩⟩
theorem FrM.al {p : Nat} (W : World) (o : Obj) (hp : p < W.heap.size) : FrM p W (W.alloc o) := .bel (S3.bal W o) hp
/-- The new parts that are no part of the maker. -/
def PtM (p n : Nat) (W : World) (b : Nat) : Prop := n ≤ b ∧ b < W.heap.size ∧ b ≠ p ∧ ¬ outB W p b
theorem PtM.mv {p n b : Nat} {W W' : World} (h : PtM p n W b) (hf : FrM p W W') : PtM p n W' b :=
  ⟨h.1, Nat.lt_of_lt_of_le h.2.1 hf.size, h.2.2.1, fun e => (hf.out b e).elim h.2.2.2 (by have := h.2.1; omega)⟩
theorem PtM.heap {p n b : Nat} {W W' : World} (h : PtM p n W b) (hf : FrM p W W') : W'.heap[b]? = W.heap[b]? := hf.keep b h.2.1 h.2.2.1 h.2.2.2
theorem PtM.cell {p n b i : Nat} {W W' : World} (h : PtM p n W b) (hf : FrM p W W') : W'.cell? ⟨b, i, none⟩ = W.cell? ⟨b, i, none⟩ := World.cell?_of_block (w := W) (h.heap hf)
theorem PtM.mono {p n n' b : Nat} {W : World} (h : PtM p n W b) (hn : n' ≤ n) : PtM p n' W b := ⟨Nat.le_trans hn h.1, h.2⟩
theorem er_frm' {p n : Nat} {W W' : World} {l : List Ex} {v : Value} (h : S3.ER W (PtM p n W) l v) (hf : FrM p W W') : S3.ER W' (PtM p n W') l v := h.keep (fun _ hx => hx.mv hf) fun _ _ hx => hx.cell hf
theorem sr_frm' {p n : Nat} {W W' : World} {l : List St} {v : Value} (h : S3.SR W (PtM p n W) l v) (hf : FrM p W W') : S3.SR W' (PtM p n W') l v := h.keep (fun _ hx => hx.mv hf) fun _ _ hx => hx.cell hf
/-- The bytes that are given: a slice value that reads as them, below block M. -/
def CodL (W : World) (M : Nat) (v : Value) (all : List Nat) : Prop :=
  ∃ A c, v = .slice A all.length c ∧ all.length ≤ 1000000 ∧ Byt all ∧ ∀ (j : Nat) b, all[j]? = some b → ∃ g o, A = some ⟨g, o, none⟩ ∧ g < M ∧ W.cell? ⟨g, o + j, none⟩ = some (.int .u8 (b : Int))
/-- The maker at p: the bytes that are left, how many statements, the tokens. -/
structure MkI (W : World) (p M : Nat) (all cs : List Nat) (left : Int) (out : TL) : Prop where
  ex : ∃ code at_ vo, at_ ≤ all.length ∧ cs = all.drop at_ ∧ CodL W M code all ∧ W.heap[p]? = some (.cells #[code, .int .i64 (at_ : Int), .int .i64 left, vo] 46 (0, 0)) ∧ S3.GrI kA (p + 1) out vo W
  lt : M ≤ p
theorem CodL.frm {W W' : World} {p M : Nat} {v : Value} {all : List Nat} (h : CodL W M v all) (hM : M ≤ p) (hp : p < W.heap.size) (ho : ∀ k, outB W p k → p < k) (hf : FrM p W W') : CodL W' M v all := by
  obtain ⟨A, c, h1, h2, h3, h4⟩ := h
  refine ⟨A, c, h1, h2, h3, fun j b hj => ?_⟩
  obtain ⟨g, o, e1, e2, e3⟩ := h4 j b hj
  exact ⟨g, o, e1, e2, (World.cell?_of_block (w := W) (hf.keep g (by omega) (by omega) fun e => by have := ho g e; omega)).trans e3⟩
theorem mk_row {W : World} {p : Nat} {a0 a1 a2 a3 : Value} (h : W.heap[p]? = some (.cells #[a0, a1, a2, a3] 46 (0, 0))) : W.cell? ⟨p, 0, none⟩ = some a0 ∧ W.cell? ⟨p, 1, none⟩ = some a1 ∧ W.cell? ⟨p, 2, none⟩ = some a2 ∧ W.cell? ⟨p, 3, none⟩ = some a3 :=
  ⟨(cell_of_row _ _ 0 _ _ _ h).trans rfl, (cell_of_row _ _ 1 _ _ _ h).trans rfl, (cell_of_row _ _ 2 _ _ _ h).trans rfl, (cell_of_row _ _ 3 _ _ _ h).trans rfl⟩
theorem mk_froz {W : World} {p i : Nat} {a0 a1 a2 a3 : Value} (h : W.heap[p]? = some (.cells #[a0, a1, a2, a3] 46 (0, 0))) : W.frozen? ⟨p, i, none⟩ = false := by
  unfold World.frozen?; rw [h]; simp
theorem mk_lt {W : World} {p : Nat} {o : Obj} (h : W.heap[p]? = some o) : p < W.heap.size := (Array.getElem?_eq_some_iff.1 h).1
theorem MkI.p_lt {W : World} {p M : Nat} {all cs : List Nat} {left : Int} {out : TL} (h : MkI W p M all cs left out) : p < W.heap.size := by
  obtain ⟨⟨code, a, vo, h1, h2, h3, h4, h5⟩, _⟩ := h
  exact mk_lt h4
theorem MkI.out_gt {W : World} {p M : Nat} {all cs : List Nat} {left : Int} {out : TL} (h : MkI W p M all cs left out) : ∀ k, outB W p k → p < k ∧ k < W.heap.size := by
  obtain ⟨⟨code, a, vo, h1, h2, h3, h4, h5⟩, _⟩ := h
  rintro k ⟨vo', e1, e2⟩
  rw [(mk_row h4).2.2.2] at e1
  cases e1
  have := h5.le e2
  omega
theorem MkI.byt {W : World} {p M : Nat} {all cs : List Nat} {left : Int} {out : TL} (h : MkI W p M all cs left out) : Byt cs := by
  obtain ⟨⟨code, a, vo, h1, h2, ⟨_, _, _, _, h3, _⟩, h4, h5⟩, _⟩ := h
  subst h2
  exact fun x hx => h3 x (List.mem_of_mem_drop hx)
/-- What leaves the maker as it is. -/
theorem MkI.bel {W W' : World} {p M : Nat} {all cs : List Nat} {left : Int} {out : TL} (h : MkI W p M all cs left out) (hb : Below W.heap.size W W') : MkI W' p M all cs left out := by
  have hp := h.p_lt
  have ho := fun k e => (h.out_gt k e).1
  obtain ⟨⟨code, a, vo, h1, h2, h3, h4, h5⟩, hM⟩ := h
  exact ⟨⟨code, a, vo, h1, h2, h3.frm hM hp ho (.bel hb hp), (hb.block _ hp).trans h4, h5.bel hb⟩, hM⟩
theorem MkI.al {W : World} {p M : Nat} {all cs : List Nat} {left : Int} {out : TL} (h : MkI W p M all cs left out) (o : Obj) : MkI (W.alloc o) p M all cs left out := h.bel (S3.bal W o)
/-- A store into a block that is no part of the maker. -/
theorem MkI.set {W : World} {p M n b : Nat} {all cs : List Nat} {left : Int} {out : TL} (h : MkI W p M all cs left out) (hb : PtM p n W b) (hM : M ≤ b) (i : Nat) (u : Value) : MkI (W.setCell ⟨b, i, none⟩ u) p M all cs left out := by
  obtain ⟨⟨code, a, vo, h1, h2, ⟨A, c, k1, k2, k3, k4⟩, h4, h5⟩, hM'⟩ := h
  refine ⟨⟨code, a, vo, h1, h2, ⟨A, c, k1, k2, k3, fun j x hj => ?_⟩, (Below.heap_setCell _ _ _ p (by show p ≠ b; exact fun e => hb.2.2.1 e.symm)).trans h4, gr_side h5 (by simp [World.setCell]) fun g hg => Below.heap_setCell _ _ _ g (fun e => hb.2.2.2 (by subst e; exact ⟨vo, (mk_row h4).2.2.2, hg⟩))⟩, hM'⟩
  obtain ⟨g, o, e1, e2, e3⟩ := k4 j x hj
  exact ⟨g, o, e1, e2, (World.cell?_of_block (w := W) (Below.heap_setCell _ _ _ g (by show g ≠ b; omega))).trans e3⟩
theorem outB_set {W : World} {p b i k : Nat} {u : Value} (hb : b ≠ p) : outB (W.setCell ⟨b, i, none⟩ u) p k ↔ outB W p k := by
  unfold outB
  rw [World.cell?_of_block (w := W) (Below.heap_setCell _ _ _ p (by show p ≠ b; exact fun e => hb e.symm))]
/-- A store into a new block. -/
theorem FrM.set {p b i : Nat} {W W' : World} {u : Value} (h : FrM p W W') (hb : W.heap.size ≤ b) (hp : b ≠ p) : FrM p W (W'.setCell ⟨b, i, none⟩ u) :=
  ⟨h.os, h.tape, h.output, by simpa [World.setCell] using h.size, fun k h1 h2 h3 => (Below.heap_setCell W' ⟨b, i, none⟩ u k (by show k ≠ b; omega)).trans (h.keep k h1 h2 h3), fun k e => h.out k ((outB_set hp).1 e)⟩
/-- A store into the maker, but for the tokens. -/
theorem FrM.own {p i : Nat} {W W' : World} {u : Value} (h : FrM p W W') (hi : i ≠ 3) : FrM p W (W'.setCell ⟨p, i, none⟩ u) :=
  ⟨h.os, h.tape, h.output, by simpa [World.setCell] using h.size, fun k h1 h2 h3 => (Below.heap_setCell W' ⟨p, i, none⟩ u k h2).trans (h.keep k h1 h2 h3), fun k ⟨vo, e1, e2⟩ => h.out k ⟨vo, by
    have e := World.cell?_setCell_other (w := W') (a := ⟨p, i, none⟩) (b := ⟨p, 3, none⟩) (v := u) (by intro e; exact hi (by injection e))
    rw [e] at e1
    exact e1, e2⟩⟩
theorem outB_is {W : World} {p : Nat} {code : Value} {a1 a2 vo : Value} (h : W.heap[p]? = some (.cells #[code, a1, a2, vo] 46 (0, 0))) {k : Nat} : outB W p k ↔ vo.ownBlock = some k :=
  ⟨fun ⟨v, e1, e2⟩ => by rw [(mk_row h).2.2.2] at e1; cases e1; exact e2, fun e => ⟨vo, (mk_row h).2.2.2, e⟩⟩
/-- The tokens have grown, and are stored. -/
theorem MkI.grow {W w8 : World} {p M : Nat} {all cs : List Nat} {left : Int} {out out' : TL} {code vo v' : Value} {at_ : Nat} (hM : M ≤ p) (h1 : at_ ≤ all.length) (h2 : cs = all.drop at_) (h3 : CodL W M code all) (h4 : W.heap[p]? = some (.cells #[code, .int .i64 (at_ : Int), .int .i64 left, vo] 46 (0, 0)))
    (h5 : S3.GrI kA (p + 1) out vo W) (hg : W.grownBy w8 vo.ownBlock) (h6 : S3.GrI kA (p + 1) out' v' w8) (h7 : ∀ k, v'.ownBlock = some k → vo.ownBlock = some k ∨ k = W.heap.size) :
    MkI (w8.setCell ⟨p, 3, none⟩ v') p M all cs left out' ∧ FrM p W (w8.setCell ⟨p, 3, none⟩ v') ∧ w8.heap[p]? = some (.cells #[code, .int .i64 (at_ : Int), .int .i64 left, vo] 46 (0, 0)) := by
  have hp := mk_lt h4
  have hne : vo.ownBlock ≠ some p := fun e => by have := (h5.le e).1; omega
  have hr : w8.heap[p]? = some (.cells #[code, .int .i64 (at_ : Int), .int .i64 left, vo] 46 (0, 0)) := (hg.block p hp (fun e => hne e.symm)).trans h4
  have hr' : (w8.setCell ⟨p, 3, none⟩ v').heap[p]? = some (.cells #[code, .int .i64 (at_ : Int), .int .i64 left, v'] 46 (0, 0)) := by
    simp only [World.setCell, Array.getElem?_modify, if_true, hr]
    rfl
  have hk : ∀ k, k < W.heap.size → k ≠ p → vo.ownBlock ≠ some k → (w8.setCell ⟨p, 3, none⟩ v').heap[k]? = W.heap[k]? := fun k a1 a2 a3 => (Below.heap_setCell _ _ _ k a2).trans (hg.block k a1 (fun e => a3 e.symm))
  refine ⟨⟨⟨code, at_, v', h1, h2, ?_, hr', gr_side h6 (by simp [World.setCell]) fun g e => Below.heap_setCell _ _ _ g (by have := (h6.le e).1; show g ≠ p; omega)⟩, hM⟩, ⟨hg.os, hg.tape, hg.output, by simpa [World.setCell] using hg.size, fun k a1 a2 a3 => hk k a1 a2 (fun e => a3 ((outB_is h4).2 e)), fun k e => ?_⟩, hr⟩
  · obtain ⟨A, c, k1, k2, k3, k4⟩ := h3
    refine ⟨A, c, k1, k2, k3, fun j b hj => ?_⟩
    obtain ⟨g, o, e1, e2, e3⟩ := k4 j b hj
    exact ⟨g, o, e1, e2, (World.cell?_of_block (w := W) (hk g (by omega) (by omega) fun e => by have := (h5.le e).1; omega)).trans e3⟩
  · rcases h7 k ((outB_is hr').1 e) with e | e
    · exact .inl ((outB_is h4).2 e)
    · exact .inr (by omega)
end Go.Proofs.YtipepljmfgjbpaaGreatDoor.E6

namespace Go.Proofs.YtipepljmfgjbpaaGreatDoor.E6
open Go Go.RowKit Go.Proofs.YtipepljmfgjbpaaGreatDoor Go.Proofs.YtipepljmfgjbpaaGreatDoor.E5

abbrev mpt (p : Nat) : Value := .pointer (some ⟨p, 0, none⟩)
theorem hdB_drop {all : List Nat} {a : Nat} (h : a < all.length) : hdB (all.drop a) = all[a] ∧ tlB (all.drop a) = all.drop (a + 1) := by
  rw [List.drop_eq_getElem_cons h]; exact ⟨rfl, rfl⟩
theorem hdB_end {all : List Nat} {a : Nat} (h : all.length ≤ a) : hdB (all.drop a) = 0 ∧ tlB (all.drop a) = all.drop a := by
  rw [List.drop_eq_nil_of_le h]; exact ⟨rfl, rfl⟩
/-- What a part of the maker gives that returns a value. -/
def MkP (W : World) (p M : Nat) (all cs : List Nat) (left : Int) (out : TL) (v : Value) (E : Ending) (W' : World) : Prop := E = .returned v ∧ MkI W' p M all cs left out ∧ FrM p W W'
theorem bal_drM (w : World) : Below w.heap.size w w.drew := (Below.refl _ w).drew
/-- A store into the maker's second cell, or its third. -/
theorem MkI.mk1 {W : World} {p M : Nat} {all : List Nat} {left : Int} {out : TL} {code vo : Value} {a a' : Nat} (hM : M ≤ p) (h1 : a' ≤ all.length) (h3 : CodL W M code all) (h4 : W.heap[p]? = some (.cells #[code, .int .i64 (a : Int), .int .i64 left, vo] 46 (0, 0))) (h5 : S3.GrI kA (p + 1) out vo W) :
    MkI (W.setCell ⟨p, 1, none⟩ (.int .i64 (a' : Int))) p M all (all.drop a') left out := by
  refine ⟨⟨code, a', vo, h1, rfl, ?_, ?_, gr_side h5 (by simp [World.setCell]) fun g e => Below.heap_setCell _ _ _ g (by have := (h5.le e).1; show g ≠ p; omega)⟩, hM⟩
  · obtain ⟨A, c, k1, k2, k3, k4⟩ := h3
    refine ⟨A, c, k1, k2, k3, fun j b hj => ?_⟩
    obtain ⟨g, o, e1, e2, e3⟩ := k4 j b hj
    exact ⟨g, o, e1, e2, (World.cell?_of_block (w := W) (Below.heap_setCell _ _ _ g (by show g ≠ p; omega))).trans e3⟩
  · simp only [World.setCell, Array.getElem?_modify, if_true, h4]
    rfl
theorem MkI.mk2 {W : World} {p M : Nat} {all : List Nat} {left left' : Int} {out : TL} {code vo : Value} {a : Nat} (hM : M ≤ p) (h1 : a ≤ all.length) (h3 : CodL W M code all) (h4 : W.heap[p]? = some (.cells #[code, .int .i64 (a : Int), .int .i64 left, vo] 46 (0, 0))) (h5 : S3.GrI kA (p + 1) out vo W) :
    MkI (W.setCell ⟨p, 2, none⟩ (.int .i64 left')) p M all (all.drop a) left' out := by
  refine ⟨⟨code, a, vo, h1, rfl, ?_, ?_, gr_side h5 (by simp [World.setCell]) fun g e => Below.heap_setCell _ _ _ g (by have := (h5.le e).1; show g ≠ p; omega)⟩, hM⟩
  · obtain ⟨A, c, k1, k2, k3, k4⟩ := h3
    refine ⟨A, c, k1, k2, k3, fun j b hj => ?_⟩
    obtain ⟨g, o, e1, e2, e3⟩ := k4 j b hj
    exact ⟨g, o, e1, e2, (World.cell?_of_block (w := W) (Below.heap_setCell _ _ _ g (by show g ≠ p; omega))).trans e3⟩
  · simp only [World.setCell, Array.getElem?_modify, if_true, h4]
    rfl
set_option maxRecDepth 100000 in
set_option maxHeartbeats 4000000 in
theorem byte_in {W : World} {p M a : Nat} {all : List Nat} {left : Int} {out : TL} {A : Option Addr} {c : Nat} {vo : Value} (hM : M ≤ p) (ha : a < all.length) (h3 : CodL W M (.slice A all.length c) all) (h4 : W.heap[p]? = some (.cells #[.slice A all.length c, .int .i64 (a : Int), .int .i64 left, vo] 46 (0, 0))) (h5 : S3.GrI kA (p + 1) out vo W) :
    Calls Tryz.prog 24 #[mpt p] W (MkP W p M all (all.drop (a + 1)) left out (.int .u8 (all[a] : Int))) := by
  have hp := mk_lt h4
  obtain ⟨k0, k1, k2, k3⟩ := mk_row h4
  have h3' := h3
  obtain ⟨A', c', hv, hl, hby, hc⟩ := h3
  cases hv
  obtain ⟨g, o, rfl, hg, hcell⟩ := hc a _ (List.getElem?_eq_getElem ha)
  have hb256 : all[a] < 256 := hby _ (List.getElem_mem ha)
  have q1 : ¬ (all.length : Int) ≤ (a : Int) := by omega
  have q2 : (a : Int) < (all.length : Int) := by omega
  have q3 : (0 : Int) ≤ (a : Int) := by omega
  have hn1 : IntKind.i64.wrap ((a : Int) + 1) = (a : Int) + 1 := IntWalk.i64_in _ (by omega)
  have hn2 : IntKind.i64.wrap ((a : Int) + 1 - 1) = (a : Int) := by rw [show (a : Int) + 1 - 1 = (a : Int) by omega]; exact IntWalk.i64_in _ (by omega)
  have hn0 : IntKind.i64.wrap (a : Int) = (a : Int) := IntWalk.i64_in _ (by omega)
  have hgp : g ≠ p := by omega
  have hgW : g < W.heap.size := by omega
  generalize hbv : all[a] = bv at *
  have qk0_W := fun W1 (h : Hid (Below W.heap.size W W1)) => (h.out.cell (p := ⟨p, 0, none⟩) hp).trans k0
  have qk1_W := fun W1 (h : Hid (Below W.heap.size W W1)) => (h.out.cell (p := ⟨p, 1, none⟩) hp).trans k1
  have HRow := Lib.hid h4
  have HG := Lib.hid h5
  have HC := Lib.hid h3'
  have HCe := Lib.hid hcell
  clear h4 h5 h3' hc hcell
  go_enter Tryz.func24, Tryz.ntmps24
  try simp only [List.append_eq, List.cons_append, List.nil_append]
  go_wp2_with fail
  have hS0 := Lib.hid (bal_drM W)
  refine wp_region_noPanic ?_
  refine wp_region_held_drew (S := fun W1 => Hid (Below W.heap.size W W1)) (by kernel_rfl) hS0 (fun hHeld => ?_)
  clear hS0
  generalize W.drew = wd at *
  refine wpAnyH_take (i := 0) (oi := { dst := some 3, op := Go.Op.move (Go.Operand.tmp 0), type := 44, pos := "outright.go:20", after := #[], guard := none }) (v := ?_) rfl (by as_aux_lemma => kernel_rfl) (by as_aux_lemma => kernel_rfl) (by as_aux_lemma => kernel_rfl) (fun _ _ _ h => h) (Or.inl ⟨by rfl, ?_⟩) hHeld ?_
  rotate_left
  · (intro w hSw; (try dsimp only at hSw); go_simp; try with_reducible rfl)
  try simp only [Act.put, List.setIfInBounds_toArray, List.set_cons_zero, List.set_cons_succ]
  refine wpAnyH_take (i := 1) (oi := { dst := some 4, op := Go.Op.nilCheck (Go.Operand.tmp 3), type := 0, pos := "outright.go:20", after := #[{ on := 0, ground := Go.Ground.data }], guard := none }) (v := ?_) rfl (by as_aux_lemma => kernel_rfl) (by as_aux_lemma => kernel_rfl) (by as_aux_lemma => kernel_rfl) (fun _ _ _ h => h) (Or.inl ⟨by rfl, ?_⟩) hHeld ?_
  rotate_left
  · (intro w hSw; (try dsimp only at hSw); go_simp; try with_reducible rfl)
  try simp only [Act.put, List.setIfInBounds_toArray, List.set_cons_zero, List.set_cons_succ]
  refine wpAnyH_take (i := 2) (oi := { dst := some 5, op := Go.Op.fieldAddr 46 (Go.Operand.tmp 4) 1, type := 0, pos := "outright.go:20", after := #[{ on := 1, ground := Go.Ground.data }], guard := none }) (v := ?_) rfl (by as_aux_lemma => kernel_rfl) (by as_aux_lemma => kernel_rfl) (by as_aux_lemma => kernel_rfl) (fun _ _ _ h => h) (Or.inl ⟨by rfl, ?_⟩) hHeld ?_
  rotate_left
  · (intro w hSw; (try dsimp only at hSw); go_simp; try with_reducible rfl)
  try simp only [Act.put, List.setIfInBounds_toArray, List.set_cons_zero, List.set_cons_succ]
  refine wpAnyH_take (i := 3) (oi := { dst := some 6, op := Go.Op.load 3 (Go.Operand.tmp 5), type := 3, pos := "outright.go:20", after := #[{ on := 2, ground := Go.Ground.data }], guard := none }) (v := ?_) rfl (by as_aux_lemma => kernel_rfl) (by as_aux_lemma => kernel_rfl) (by as_aux_lemma => kernel_rfl) (fun _ _ _ h => h) (Or.inl ⟨by rfl, ?_⟩) hHeld ?_
  rotate_left
  · (intro w hSw; (try dsimp only at hSw); go_simp; try with_reducible rfl)
  try simp only [Act.put, List.setIfInBounds_toArray, List.set_cons_zero, List.set_cons_succ]
  refine wpAnyH_take (i := 4) (oi := { dst := some 7, op := Go.Op.move (Go.Operand.tmp 0), type := 44, pos := "outright.go:20", after := #[], guard := none }) (v := ?_) rfl (by as_aux_lemma => kernel_rfl) (by as_aux_lemma => kernel_rfl) (by as_aux_lemma => kernel_rfl) (fun _ _ _ h => h) (Or.inl ⟨by rfl, ?_⟩) hHeld ?_
  rotate_left
  · (intro w hSw; (try dsimp only at hSw); go_simp; try with_reducible rfl)
  try simp only [Act.put, List.setIfInBounds_toArray, List.set_cons_zero, List.set_cons_succ]
  refine wpAnyH_take (i := 5) (oi := { dst := some 8, op := Go.Op.nilCheck (Go.Operand.tmp 7), type := 0, pos := "outright.go:20", after := #[{ on := 4, ground := Go.Ground.data }], guard := none }) (v := ?_) rfl (by as_aux_lemma => kernel_rfl) (by as_aux_lemma => kernel_rfl) (by as_aux_lemma => kernel_rfl) (fun _ _ _ h => h) (Or.inl ⟨by rfl, ?_⟩) hHeld ?_
  rotate_left
  · (intro w hSw; (try dsimp only at hSw); go_simp; try with_reducible rfl)
  try simp only [Act.put, List.setIfInBounds_toArray, List.set_cons_zero, List.set_cons_succ]
  refine wpAnyH_take (i := 6) (oi := { dst := some 9, op := Go.Op.fieldAddr 46 (Go.Operand.tmp 8) 0, type := 0, pos := "outright.go:20", after := #[{ on := 5, ground := Go.Ground.data }], guard := none }) (v := ?_) rfl (by as_aux_lemma => kernel_rfl) (by as_aux_lemma => kernel_rfl) (by as_aux_lemma => kernel_rfl) (fun _ _ _ h => h) (Or.inl ⟨by rfl, ?_⟩) hHeld ?_
  rotate_left
  · (intro w hSw; (try dsimp only at hSw); go_simp; try with_reducible rfl)
  try simp only [Act.put, List.setIfInBounds_toArray, List.set_cons_zero, List.set_cons_succ]
  refine wpAnyH_take (i := 7) (oi := { dst := some 10, op := Go.Op.load 22 (Go.Operand.tmp 9), type := 22, pos := "outright.go:20", after := #[{ on := 6, ground := Go.Ground.data }], guard := none }) (v := ?_) rfl (by as_aux_lemma => kernel_rfl) (by as_aux_lemma => kernel_rfl) (by as_aux_lemma => kernel_rfl) (fun _ _ _ h => h) (Or.inl ⟨by rfl, ?_⟩) hHeld ?_
  rotate_left
  · (intro w hSw; (try dsimp only at hSw); go_simp; try with_reducible rfl)
  try simp only [Act.put, List.setIfInBounds_toArray, List.set_cons_zero, List.set_cons_succ]
  refine wpAnyH_take (i := 8) (oi := { dst := some 11, op := Go.Op.call { callee := Go.Callee.builtin Go.Builtin.len, args := #[Go.Operand.tmp 10], argTypes := #[22] }, type := 3, pos := "outright.go:20", after := #[{ on := 7, ground := Go.Ground.data }], guard := none }) (v := ?_) rfl (by as_aux_lemma => kernel_rfl) (by as_aux_lemma => kernel_rfl) (by as_aux_lemma => kernel_rfl) (fun _ _ _ h => h) (Or.inl ⟨by rfl, ?_⟩) hHeld ?_
  rotate_left
  · (intro w hSw; (try dsimp only at hSw); go_simp; try with_reducible rfl)
  try simp only [Act.put, List.setIfInBounds_toArray, List.set_cons_zero, List.set_cons_succ]
  refine wpAnyH_ready (rs := [9]) (by as_aux_lemma => kernel_rfl) (List.cons_ne_nil _ _) ?_
  refine AllReadyH.cons (o := { dst := some 12, op := Go.Op.binOp Go.BinOp.geq 3 (Go.Operand.tmp 6) (Go.Operand.tmp 11) 3, type := 4, pos := "outright.go:20", after := #[{ on := 3, ground := Go.Ground.data }, { on := 8, ground := Go.Ground.data }], guard := none }) rfl (fun K hK => ?_) AllReadyH.nil
  go_simp
  refine hK.out _ _ hHeld (fun _ => ?_)
  clear hK K
  try simp only [Act.put, List.setIfInBounds_toArray, List.set_cons_zero, List.set_cons_succ]
  refine wpAnyH_done (by kernel_rfl) ?_ _
  refine NoPanic.normal ?_
  have hbd := hHeld.out
  have hr1 := (hbd.block p hp).trans HRow.out
  have hpd : p < wd.heap.size := mk_lt hr1
  have HRow1 := Lib.hid hr1
  have HG1 := Lib.hid (HG.out.bel hbd)
  have HC1 := Lib.hid (HC.out.frm hM hp (fun k e => (HG.out.le ((outB_is HRow.out).1 e)).1) (.bel hbd hp))
  have HB1 := Lib.hid hbd
  have HCe1 := Lib.hid ((hbd.cell (p := ⟨g, o + a, none⟩) hgW).trans HCe.out)
  obtain ⟨j0, j1, j2, j3⟩ := mk_row hr1
  have fz := mk_froz (i := 1) hr1
  clear hHeld hbd hr1 HRow HG HC HCe qk0_W qk1_W k0 k1 k2 k3
  have HI := Lib.hid (MkI.mk1 (a' := a + 1) hM ha HC1.out HRow1.out HG1.out)
  have HF := Lib.hid ((FrM.bel HB1.out hp).own (i := 1) (u := .int .i64 ((a : Int) + 1)) (by decide))
  have l0 := (World.cell?_setCell_other (w := wd) (a := ⟨p, 1, none⟩) (b := ⟨p, 0, none⟩) (v := .int .i64 ((a : Int) + 1)) (by intro e; injection e with _ e; omega)).trans j0
  have l1 : (wd.setCell ⟨p, 1, none⟩ (.int .i64 ((a : Int) + 1))).cell? ⟨p, 1, none⟩ = some (.int .i64 ((a : Int) + 1)) := World.cell?_setCell_same (w := wd) (a := ⟨p, 1, none⟩) (v := .int .i64 ((a : Int) + 1)) j1
  have l2 := (World.cell?_of_block (w := wd) (w' := wd.setCell ⟨p, 1, none⟩ (.int .i64 ((a : Int) + 1))) (a := ⟨g, o + a, none⟩) (Below.heap_setCell _ _ _ g hgp)).trans HCe1.out
  have hps : p < (wd.setCell ⟨p, 1, none⟩ (.int .i64 ((a : Int) + 1))).heap.size := by simpa [World.setCell] using hpd
  have hszs : (wd.setCell ⟨p, 1, none⟩ (.int .i64 ((a : Int) + 1))).heap.size = wd.heap.size := by simp [World.setCell]
  have hgs : g < (wd.setCell ⟨p, 1, none⟩ (.int .i64 ((a : Int) + 1))).heap.size := by have := HB1.out.size; omega
  clear hszs
  rw [show ((a + 1 : Nat) : Int) = (a : Int) + 1 by omega] at HI
  go_wp2_with fail
  generalize wd.setCell ⟨p, 1, none⟩ (.int .i64 ((a : Int) + 1)) = ws at *
  have qk0_ws := fun W1 (h : Hid (Below ws.heap.size ws W1)) => (h.out.cell (p := ⟨p, 0, none⟩) hps).trans l0
  have qk1_ws := fun W1 (h : Hid (Below ws.heap.size ws W1)) => (h.out.cell (p := ⟨p, 1, none⟩) hps).trans l1
  have qk2_ws := fun W1 (h : Hid (Below ws.heap.size ws W1)) => (h.out.cell (p := ⟨g, o + a, none⟩) hgs).trans l2
  have qt : ((a : Int)).toNat = a := by omega
  have hS0 := Lib.hid (bal_drM ws)
  refine wp_region_noPanic ?_
  refine wp_region_held_drew (S := fun W1 => Hid (Below ws.heap.size ws W1)) (by kernel_rfl) hS0 (fun hHeld => ?_)
  clear hS0
  generalize ws.drew = wt at *
  refine wpAnyH_take (i := 0) (oi := { dst := some 20, op := Go.Op.move (Go.Operand.tmp 0), type := 44, pos := "outright.go:24", after := #[], guard := none }) (v := ?_) rfl (by as_aux_lemma => kernel_rfl) (by as_aux_lemma => kernel_rfl) (by as_aux_lemma => kernel_rfl) (fun _ _ _ h => h) (Or.inl ⟨by rfl, ?_⟩) hHeld ?_
  rotate_left
  · (intro w hSw; (try dsimp only at hSw); go_simp; try with_reducible rfl)
  try simp only [Act.put, List.setIfInBounds_toArray, List.set_cons_zero, List.set_cons_succ]
  refine wpAnyH_take (i := 1) (oi := { dst := some 21, op := Go.Op.nilCheck (Go.Operand.tmp 20), type := 0, pos := "outright.go:24", after := #[{ on := 0, ground := Go.Ground.data }], guard := none }) (v := ?_) rfl (by as_aux_lemma => kernel_rfl) (by as_aux_lemma => kernel_rfl) (by as_aux_lemma => kernel_rfl) (fun _ _ _ h => h) (Or.inl ⟨by rfl, ?_⟩) hHeld ?_
  rotate_left
  · (intro w hSw; (try dsimp only at hSw); go_simp; try with_reducible rfl)
  try simp only [Act.put, List.setIfInBounds_toArray, List.set_cons_zero, List.set_cons_succ]
  refine wpAnyH_take (i := 2) (oi := { dst := some 22, op := Go.Op.fieldAddr 46 (Go.Operand.tmp 21) 0, type := 0, pos := "outright.go:24", after := #[{ on := 1, ground := Go.Ground.data }], guard := none }) (v := ?_) rfl (by as_aux_lemma => kernel_rfl) (by as_aux_lemma => kernel_rfl) (by as_aux_lemma => kernel_rfl) (fun _ _ _ h => h) (Or.inl ⟨by rfl, ?_⟩) hHeld ?_
  rotate_left
  · (intro w hSw; (try dsimp only at hSw); go_simp; try with_reducible rfl)
  try simp only [Act.put, List.setIfInBounds_toArray, List.set_cons_zero, List.set_cons_succ]
  refine wpAnyH_take (i := 3) (oi := { dst := some 23, op := Go.Op.load 22 (Go.Operand.tmp 22), type := 22, pos := "outright.go:24", after := #[{ on := 2, ground := Go.Ground.data }], guard := none }) (v := ?_) rfl (by as_aux_lemma => kernel_rfl) (by as_aux_lemma => kernel_rfl) (by as_aux_lemma => kernel_rfl) (fun _ _ _ h => h) (Or.inl ⟨by rfl, ?_⟩) hHeld ?_
  rotate_left
  · (intro w hSw; (try dsimp only at hSw); go_simp; try with_reducible rfl)
  try simp only [Act.put, List.setIfInBounds_toArray, List.set_cons_zero, List.set_cons_succ]
  refine wpAnyH_take (i := 4) (oi := { dst := some 24, op := Go.Op.move (Go.Operand.tmp 0), type := 44, pos := "outright.go:24", after := #[], guard := none }) (v := ?_) rfl (by as_aux_lemma => kernel_rfl) (by as_aux_lemma => kernel_rfl) (by as_aux_lemma => kernel_rfl) (fun _ _ _ h => h) (Or.inl ⟨by rfl, ?_⟩) hHeld ?_
  rotate_left
  · (intro w hSw; (try dsimp only at hSw); go_simp; try with_reducible rfl)
  try simp only [Act.put, List.setIfInBounds_toArray, List.set_cons_zero, List.set_cons_succ]
  refine wpAnyH_take (i := 5) (oi := { dst := some 25, op := Go.Op.nilCheck (Go.Operand.tmp 24), type := 0, pos := "outright.go:24", after := #[{ on := 4, ground := Go.Ground.data }], guard := none }) (v := ?_) rfl (by as_aux_lemma => kernel_rfl) (by as_aux_lemma => kernel_rfl) (by as_aux_lemma => kernel_rfl) (fun _ _ _ h => h) (Or.inl ⟨by rfl, ?_⟩) hHeld ?_
  rotate_left
  · (intro w hSw; (try dsimp only at hSw); go_simp; try with_reducible rfl)
  try simp only [Act.put, List.setIfInBounds_toArray, List.set_cons_zero, List.set_cons_succ]
  refine wpAnyH_take (i := 6) (oi := { dst := some 26, op := Go.Op.fieldAddr 46 (Go.Operand.tmp 25) 1, type := 0, pos := "outright.go:24", after := #[{ on := 5, ground := Go.Ground.data }], guard := none }) (v := ?_) rfl (by as_aux_lemma => kernel_rfl) (by as_aux_lemma => kernel_rfl) (by as_aux_lemma => kernel_rfl) (fun _ _ _ h => h) (Or.inl ⟨by rfl, ?_⟩) hHeld ?_
  rotate_left
  · (intro w hSw; (try dsimp only at hSw); go_simp; try with_reducible rfl)
  try simp only [Act.put, List.setIfInBounds_toArray, List.set_cons_zero, List.set_cons_succ]
  refine wpAnyH_take (i := 7) (oi := { dst := some 27, op := Go.Op.load 3 (Go.Operand.tmp 26), type := 3, pos := "outright.go:24", after := #[{ on := 6, ground := Go.Ground.data }], guard := none }) (v := ?_) rfl (by as_aux_lemma => kernel_rfl) (by as_aux_lemma => kernel_rfl) (by as_aux_lemma => kernel_rfl) (fun _ _ _ h => h) (Or.inl ⟨by rfl, ?_⟩) hHeld ?_
  rotate_left
  · (intro w hSw; (try dsimp only at hSw); go_simp; try with_reducible rfl)
  try simp only [Act.put, List.setIfInBounds_toArray, List.set_cons_zero, List.set_cons_succ]
  refine wpAnyH_take (i := 8) (oi := { dst := some 28, op := Go.Op.binOp Go.BinOp.sub 3 (Go.Operand.tmp 27) (Go.Operand.const (Go.Value.int Go.IntKind.i64 1)) 3, type := 3, pos := "outright.go:24", after := #[{ on := 7, ground := Go.Ground.data }], guard := none }) (v := ?_) rfl (by as_aux_lemma => kernel_rfl) (by as_aux_lemma => kernel_rfl) (by as_aux_lemma => kernel_rfl) (fun _ _ _ h => h) (Or.inl ⟨by rfl, ?_⟩) hHeld ?_
  rotate_left
  · (intro w hSw; (try dsimp only at hSw); go_simp; try with_reducible rfl)
  try simp only [Act.put, List.setIfInBounds_toArray, List.set_cons_zero, List.set_cons_succ]
  refine wpAnyH_take (i := 9) (oi := { dst := some 29, op := Go.Op.indexAddr 22 (Go.Operand.tmp 23) (Go.Operand.tmp 28), type := 0, pos := "outright.go:24", after := #[{ on := 3, ground := Go.Ground.data }, { on := 8, ground := Go.Ground.data }], guard := none }) (v := ?_) rfl (by as_aux_lemma => kernel_rfl) (by as_aux_lemma => kernel_rfl) (by as_aux_lemma => kernel_rfl) (fun _ _ _ h => h) (Or.inl ⟨by rfl, ?_⟩) hHeld ?_
  rotate_left
  · (intro w hSw; (try dsimp only at hSw); go_simp; try with_reducible rfl)
  try simp only [Act.put, List.setIfInBounds_toArray, List.set_cons_zero, List.set_cons_succ]
  refine wpAnyH_take (i := 10) (oi := { dst := some 30, op := Go.Op.load 5 (Go.Operand.tmp 29), type := 5, pos := "outright.go:24", after := #[{ on := 9, ground := Go.Ground.data }], guard := none }) (v := ?_) rfl (by as_aux_lemma => kernel_rfl) (by as_aux_lemma => kernel_rfl) (by as_aux_lemma => kernel_rfl) (fun _ _ _ h => h) (Or.inl ⟨by rfl, ?_⟩) hHeld ?_
  rotate_left
  · (intro w hSw; (try dsimp only at hSw); go_simp; try with_reducible rfl)
  try simp only [Act.put, List.setIfInBounds_toArray, List.set_cons_zero, List.set_cons_succ]
  refine wpAnyH_ready (rs := [11]) (by as_aux_lemma => kernel_rfl) (List.cons_ne_nil _ _) ?_
  refine AllReadyH.cons (o := { dst := some 2, op := Go.Op.assign (Go.Operand.tmp 30), type := 5, pos := "outright.go:24", after := #[{ on := 10, ground := Go.Ground.data }, { on := 0, ground := Go.Ground.phase }, { on := 1, ground := Go.Ground.phase }, { on := 2, ground := Go.Ground.phase }, { on := 3, ground := Go.Ground.phase }, { on := 4, ground := Go.Ground.phase }, { on := 5, ground := Go.Ground.phase }, { on := 6, ground := Go.Ground.phase }, { on := 7, ground := Go.Ground.phase }, { on := 8, ground := Go.Ground.phase }, { on := 9, ground := Go.Ground.phase }, { on := 10, ground := Go.Ground.phase }], guard := none }) rfl (fun K hK => ?_) AllReadyH.nil
  go_simp
  refine hK.out _ _ hHeld (fun _ => ?_)
  clear hK K
  try simp only [Act.put, List.setIfInBounds_toArray, List.set_cons_zero, List.set_cons_succ]
  refine wpAnyH_done (by kernel_rfl) ?_ _
  refine NoPanic.normal ?_
  have hbd := hHeld.out
  have HB2 := Lib.hid hbd
  clear hHeld hbd j0 j1 j2 j3 l0 l1 l2 qk0_ws qk1_ws qk2_ws
  go_wp2_with fail
  go_ret
  exact ⟨rfl, HI.out.bel HB2.out, HF.out.trans (.bel HB2.out hps)⟩
set_option maxRecDepth 100000 in
set_option maxHeartbeats 4000000 in
theorem byte_no {W : World} {p M a : Nat} {all : List Nat} {left : Int} {out : TL} {A : Option Addr} {c : Nat} {vo : Value} (ha : all.length ≤ a) (H : MkI W p M all (all.drop a) left out) (h4 : W.heap[p]? = some (.cells #[.slice A all.length c, .int .i64 (a : Int), .int .i64 left, vo] 46 (0, 0))) :
    Calls Tryz.prog 24 #[mpt p] W (MkP W p M all (all.drop a) left out (.int .u8 0)) := by
  have hp := mk_lt h4
  obtain ⟨k0, k1, k2, k3⟩ := mk_row h4
  have q1 : (all.length : Int) ≤ (a : Int) := by omega
  have qk0_W := fun W1 (h : Hid (Below W.heap.size W W1)) => (h.out.cell (p := ⟨p, 0, none⟩) hp).trans k0
  have qk1_W := fun W1 (h : Hid (Below W.heap.size W W1)) => (h.out.cell (p := ⟨p, 1, none⟩) hp).trans k1
  have HI := Lib.hid H
  clear H h4
  go_enter Tryz.func24, Tryz.ntmps24
  try simp only [List.append_eq, List.cons_append, List.nil_append]
  go_wp2_with fail
  have hS0 := Lib.hid (bal_drM W)
  refine wp_region_noPanic ?_
  refine wp_region_held_drew (S := fun W1 => Hid (Below W.heap.size W W1)) (by kernel_rfl) hS0 (fun hHeld => ?_)
  clear hS0
  generalize W.drew = wd at *
  refine wpAnyH_take (i := 0) (oi := { dst := some 3, op := Go.Op.move (Go.Operand.tmp 0), type := 44, pos := "outright.go:20", after := #[], guard := none }) (v := ?_) rfl (by as_aux_lemma => kernel_rfl) (by as_aux_lemma => kernel_rfl) (by as_aux_lemma => kernel_rfl) (fun _ _ _ h => h) (Or.inl ⟨by rfl, ?_⟩) hHeld ?_
  rotate_left
  · (intro w hSw; (try dsimp only at hSw); go_simp; try with_reducible rfl)
  try simp only [Act.put, List.setIfInBounds_toArray, List.set_cons_zero, List.set_cons_succ]
  refine wpAnyH_take (i := 1) (oi := { dst := some 4, op := Go.Op.nilCheck (Go.Operand.tmp 3), type := 0, pos := "outright.go:20", after := #[{ on := 0, ground := Go.Ground.data }], guard := none }) (v := ?_) rfl (by as_aux_lemma => kernel_rfl) (by as_aux_lemma => kernel_rfl) (by as_aux_lemma => kernel_rfl) (fun _ _ _ h => h) (Or.inl ⟨by rfl, ?_⟩) hHeld ?_
  rotate_left
  · (intro w hSw; (try dsimp only at hSw); go_simp; try with_reducible rfl)
  try simp only [Act.put, List.setIfInBounds_toArray, List.set_cons_zero, List.set_cons_succ]
  refine wpAnyH_take (i := 2) (oi := { dst := some 5, op := Go.Op.fieldAddr 46 (Go.Operand.tmp 4) 1, type := 0, pos := "outright.go:20", after := #[{ on := 1, ground := Go.Ground.data }], guard := none }) (v := ?_) rfl (by as_aux_lemma => kernel_rfl) (by as_aux_lemma => kernel_rfl) (by as_aux_lemma => kernel_rfl) (fun _ _ _ h => h) (Or.inl ⟨by rfl, ?_⟩) hHeld ?_
  rotate_left
  · (intro w hSw; (try dsimp only at hSw); go_simp; try with_reducible rfl)
  try simp only [Act.put, List.setIfInBounds_toArray, List.set_cons_zero, List.set_cons_succ]
  refine wpAnyH_take (i := 3) (oi := { dst := some 6, op := Go.Op.load 3 (Go.Operand.tmp 5), type := 3, pos := "outright.go:20", after := #[{ on := 2, ground := Go.Ground.data }], guard := none }) (v := ?_) rfl (by as_aux_lemma => kernel_rfl) (by as_aux_lemma => kernel_rfl) (by as_aux_lemma => kernel_rfl) (fun _ _ _ h => h) (Or.inl ⟨by rfl, ?_⟩) hHeld ?_
  rotate_left
  · (intro w hSw; (try dsimp only at hSw); go_simp; try with_reducible rfl)
  try simp only [Act.put, List.setIfInBounds_toArray, List.set_cons_zero, List.set_cons_succ]
  refine wpAnyH_take (i := 4) (oi := { dst := some 7, op := Go.Op.move (Go.Operand.tmp 0), type := 44, pos := "outright.go:20", after := #[], guard := none }) (v := ?_) rfl (by as_aux_lemma => kernel_rfl) (by as_aux_lemma => kernel_rfl) (by as_aux_lemma => kernel_rfl) (fun _ _ _ h => h) (Or.inl ⟨by rfl, ?_⟩) hHeld ?_
  rotate_left
  · (intro w hSw; (try dsimp only at hSw); go_simp; try with_reducible rfl)
  try simp only [Act.put, List.setIfInBounds_toArray, List.set_cons_zero, List.set_cons_succ]
  refine wpAnyH_take (i := 5) (oi := { dst := some 8, op := Go.Op.nilCheck (Go.Operand.tmp 7), type := 0, pos := "outright.go:20", after := #[{ on := 4, ground := Go.Ground.data }], guard := none }) (v := ?_) rfl (by as_aux_lemma => kernel_rfl) (by as_aux_lemma => kernel_rfl) (by as_aux_lemma => kernel_rfl) (fun _ _ _ h => h) (Or.inl ⟨by rfl, ?_⟩) hHeld ?_
  rotate_left
  · (intro w hSw; (try dsimp only at hSw); go_simp; try with_reducible rfl)
  try simp only [Act.put, List.setIfInBounds_toArray, List.set_cons_zero, List.set_cons_succ]
  refine wpAnyH_take (i := 6) (oi := { dst := some 9, op := Go.Op.fieldAddr 46 (Go.Operand.tmp 8) 0, type := 0, pos := "outright.go:20", after := #[{ on := 5, ground := Go.Ground.data }], guard := none }) (v := ?_) rfl (by as_aux_lemma => kernel_rfl) (by as_aux_lemma => kernel_rfl) (by as_aux_lemma => kernel_rfl) (fun _ _ _ h => h) (Or.inl ⟨by rfl, ?_⟩) hHeld ?_
  rotate_left
  · (intro w hSw; (try dsimp only at hSw); go_simp; try with_reducible rfl)
  try simp only [Act.put, List.setIfInBounds_toArray, List.set_cons_zero, List.set_cons_succ]
  refine wpAnyH_take (i := 7) (oi := { dst := some 10, op := Go.Op.load 22 (Go.Operand.tmp 9), type := 22, pos := "outright.go:20", after := #[{ on := 6, ground := Go.Ground.data }], guard := none }) (v := ?_) rfl (by as_aux_lemma => kernel_rfl) (by as_aux_lemma => kernel_rfl) (by as_aux_lemma => kernel_rfl) (fun _ _ _ h => h) (Or.inl ⟨by rfl, ?_⟩) hHeld ?_
  rotate_left
  · (intro w hSw; (try dsimp only at hSw); go_simp; try with_reducible rfl)
  try simp only [Act.put, List.setIfInBounds_toArray, List.set_cons_zero, List.set_cons_succ]
  refine wpAnyH_take (i := 8) (oi := { dst := some 11, op := Go.Op.call { callee := Go.Callee.builtin Go.Builtin.len, args := #[Go.Operand.tmp 10], argTypes := #[22] }, type := 3, pos := "outright.go:20", after := #[{ on := 7, ground := Go.Ground.data }], guard := none }) (v := ?_) rfl (by as_aux_lemma => kernel_rfl) (by as_aux_lemma => kernel_rfl) (by as_aux_lemma => kernel_rfl) (fun _ _ _ h => h) (Or.inl ⟨by rfl, ?_⟩) hHeld ?_
  rotate_left
  · (intro w hSw; (try dsimp only at hSw); go_simp; try with_reducible rfl)
  try simp only [Act.put, List.setIfInBounds_toArray, List.set_cons_zero, List.set_cons_succ]
  refine wpAnyH_ready (rs := [9]) (by as_aux_lemma => kernel_rfl) (List.cons_ne_nil _ _) ?_
  refine AllReadyH.cons (o := { dst := some 12, op := Go.Op.binOp Go.BinOp.geq 3 (Go.Operand.tmp 6) (Go.Operand.tmp 11) 3, type := 4, pos := "outright.go:20", after := #[{ on := 3, ground := Go.Ground.data }, { on := 8, ground := Go.Ground.data }], guard := none }) rfl (fun K hK => ?_) AllReadyH.nil
  go_simp
  refine hK.out _ _ hHeld (fun _ => ?_)
  clear hK K
  try simp only [Act.put, List.setIfInBounds_toArray, List.set_cons_zero, List.set_cons_succ]
  refine wpAnyH_done (by kernel_rfl) ?_ _
  refine NoPanic.normal ?_
  have hbd := hHeld.out
  have HB := Lib.hid hbd
  clear hHeld hbd k0 k1 k2 k3 qk0_W qk1_W
  go_wp2_with fail
  go_ret
  exact ⟨rfl, HI.out.bel HB.out, .bel HB.out hp⟩
theorem byteM {W : World} {p M : Nat} {all cs : List Nat} {left : Int} {out : TL} (h : MkI W p M all cs left out) :
    Calls Tryz.prog 24 #[mpt p] W (MkP W p M all (tlB cs) left out (.int .u8 (hdB cs : Int))) := by
  have h0 := h
  obtain ⟨⟨code, a, vo, h1, h2, h3, h4, h5⟩, hM⟩ := h
  obtain ⟨A, c, rfl, _⟩ := id h3
  subst h2
  rcases Nat.lt_or_ge a all.length with ha | ha
  · rw [(hdB_drop ha).1, (hdB_drop ha).2]
    exact byte_in hM ha h3 h4 h5
  · rw [(hdB_end ha).1, (hdB_end ha).2]
    exact byte_no ha h0 h4
theorem StrL.mono {W : World} {M M' : Nat} {v : Value} {l : List Bytes} (h : StrL W M v l) (hM : M ≤ M') : StrL W M' v l := by
  obtain ⟨A, c, h1, h2, h3⟩ := h
  refine ⟨A, c, h1, h2, fun i s hi => ?_⟩
  obtain ⟨e0, e1, b, o, e2, e3, e4⟩ := h3 i s hi
  exact ⟨e0, e1, b, o, e2, Nat.lt_of_lt_of_le e3 hM, e4⟩
set_option maxRecDepth 100000 in
set_option maxHeartbeats 4000000 in
theorem addM {W : World} {p M : Nat} {all cs : List Nat} {left : Int} {out : TL} (h : MkI W p M all cs left out) {v : Value} {ws : List Bytes} (hs : StrL W W.heap.size v ws) (h0 : 0 < ws.length) (hlen : out.length + ws.length ≤ 1000000) :
    Calls Tryz.prog 25 #[mpt p, v] W (MkP W p M all cs left (out ++ ws.map wtk) (.tuple #[])) := by
  have hp := h.p_lt
  obtain ⟨⟨code, a, vo, h1, h2, h3, h4, h5⟩, hM⟩ := h
  have HRow := Lib.hid h4
  have HG := Lib.hid h5
  have HC := Lib.hid h3
  have HS := Lib.hid hs
  clear h4 h5 h3 hs
  go_enter Tryz.func25, Tryz.ntmps25
  try simp only [List.append_eq, List.cons_append, List.nil_append]
  go_wp2_with fail
  have hS0 : Hid True := Lib.hid trivial
  refine wp_region_noPanic ?_
  refine wp_region_held_drew (S := fun _ => Hid True) (by kernel_rfl) hS0 (fun hHeld => ?_)
  have hbd := bal_drM W
  generalize W.drew = wd at *
  have k3 := (mk_row ((hbd.block p hp).trans HRow.out)).2.2.2
  have HT := Lib.hid (tokens_calls ((HS.out.bel hbd).mono hbd.size))
  have HB1 := Lib.hid hbd
  clear hbd HS
  refine wpAnyH_take (i := 0) (oi := { dst := some 4, op := Go.Op.move (Go.Operand.tmp 0), type := 44, pos := "outright.go:28", after := #[], guard := none }) (v := ?_) rfl (by as_aux_lemma => kernel_rfl) (by as_aux_lemma => kernel_rfl) (by as_aux_lemma => kernel_rfl) (fun _ _ _ h => h) (Or.inl ⟨by rfl, ?_⟩) hHeld ?_
  rotate_left
  · (intro w hSw; (try dsimp only at hSw); go_simp; try with_reducible rfl)
  try simp only [Act.put, List.setIfInBounds_toArray, List.set_cons_zero, List.set_cons_succ]
  refine wpAnyH_take (i := 1) (oi := { dst := some 5, op := Go.Op.move (Go.Operand.tmp 0), type := 44, pos := "outright.go:28", after := #[], guard := none }) (v := ?_) rfl (by as_aux_lemma => kernel_rfl) (by as_aux_lemma => kernel_rfl) (by as_aux_lemma => kernel_rfl) (fun _ _ _ h => h) (Or.inl ⟨by rfl, ?_⟩) hHeld ?_
  rotate_left
  · (intro w hSw; (try dsimp only at hSw); go_simp; try with_reducible rfl)
  try simp only [Act.put, List.setIfInBounds_toArray, List.set_cons_zero, List.set_cons_succ]
  refine wpAnyH_take (i := 2) (oi := { dst := some 6, op := Go.Op.nilCheck (Go.Operand.tmp 5), type := 0, pos := "outright.go:28", after := #[{ on := 1, ground := Go.Ground.data }], guard := none }) (v := ?_) rfl (by as_aux_lemma => kernel_rfl) (by as_aux_lemma => kernel_rfl) (by as_aux_lemma => kernel_rfl) (fun _ _ _ h => h) (Or.inl ⟨by rfl, ?_⟩) hHeld ?_
  rotate_left
  · (intro w hSw; (try dsimp only at hSw); go_simp; try with_reducible rfl)
  try simp only [Act.put, List.setIfInBounds_toArray, List.set_cons_zero, List.set_cons_succ]
  refine wpAnyH_take (i := 3) (oi := { dst := some 7, op := Go.Op.fieldAddr 46 (Go.Operand.tmp 6) 3, type := 0, pos := "outright.go:28", after := #[{ on := 2, ground := Go.Ground.data }], guard := none }) (v := ?_) rfl (by as_aux_lemma => kernel_rfl) (by as_aux_lemma => kernel_rfl) (by as_aux_lemma => kernel_rfl) (fun _ _ _ h => h) (Or.inl ⟨by rfl, ?_⟩) hHeld ?_
  rotate_left
  · (intro w hSw; (try dsimp only at hSw); go_simp; try with_reducible rfl)
  try simp only [Act.put, List.setIfInBounds_toArray, List.set_cons_zero, List.set_cons_succ]
  refine wpAnyH_take (i := 5) (oi := { dst := some 9, op := Go.Op.move (Go.Operand.tmp 1), type := 58, pos := "outright.go:28", after := #[], guard := none }) (v := ?_) rfl (by as_aux_lemma => kernel_rfl) (by as_aux_lemma => kernel_rfl) (by as_aux_lemma => kernel_rfl) (fun _ _ _ h => h) (Or.inl ⟨by rfl, ?_⟩) hHeld ?_
  rotate_left
  · (intro w hSw; (try dsimp only at hSw); go_simp; try with_reducible rfl)
  try simp only [Act.put, List.setIfInBounds_toArray, List.set_cons_zero, List.set_cons_succ]
  refine wpAnyH_ready (rs := [4, 6]) (by as_aux_lemma => kernel_rfl) (List.cons_ne_nil _ _) ?_
  refine AllReadyH.cons (o := { dst := some 8, op := Go.Op.load 23 (Go.Operand.tmp 7), type := 23, pos := "outright.go:28", after := #[{ on := 3, ground := Go.Ground.data }], guard := none }) rfl (fun K hK => ?_) (AllReadyH.cons (o := { dst := some 10, op := Go.Op.call { callee := Go.Callee.value (Go.Operand.func 10), args := #[Go.Operand.tmp 9], argTypes := #[58] }, type := 23, pos := "outright.go:28", after := #[{ on := 5, ground := Go.Ground.data }], guard := none }) rfl (fun K hK => ?_) AllReadyH.nil)
  · go_simp
    refine hK.out _ _ (Lib.hid trivial) (fun _ => ?_)
    clear hK K
    try simp only [Act.put, List.setIfInBounds_toArray, List.set_cons_zero, List.set_cons_succ]
    refine wpAnyH_ready (rs := [6]) (by as_aux_lemma => kernel_rfl) (List.cons_ne_nil _ _) ?_
    refine AllReadyH.cons (o := { dst := some 10, op := Go.Op.call { callee := Go.Callee.value (Go.Operand.func 10), args := #[Go.Operand.tmp 9], argTypes := #[58] }, type := 23, pos := "outright.go:28", after := #[{ on := 5, ground := Go.Ground.data }], guard := none }) rfl (fun K hK => ?_) AllReadyH.nil
    go_simp
    refine HT.out.mono ?_
    rintro e w1 ⟨A1, c1, rfl, hT1, hb⟩
    have HB2 := Lib.hid (after HB1.out hb)
    have HT1 := Lib.hid hT1
    have l3 := (mk_row ((HB2.out.block p hp).trans HRow.out)).2.2.2
    clear hb hT1 HT k3
    go_wp2_with fail
    refine hK.out _ _ (Lib.hid trivial) (fun _ => ?_)
    clear hK K
    try simp only [Act.put, List.setIfInBounds_toArray, List.set_cons_zero, List.set_cons_succ]
    have hr1 := (HB2.out.block p hp).trans HRow.out
    obtain ⟨g, cap, w8, hrun, hG8, hgr, hat, hb8⟩ := cat_grown (HG.out.bel HB2.out) HT1.out (by rw [List.length_map]; exact hlen) (by rw [List.length_map]; exact h0) 23
    obtain ⟨hI, hF, hr8⟩ := MkI.grow hM h1 h2 (HC.out.frm hM hp (fun k e => (HG.out.le ((outB_is HRow.out).1 e)).1) (.bel HB2.out hp)) hr1 (HG.out.bel HB2.out) hgr hG8 (fun k hk => by
      simp [Value.ownBlock] at hk
      subst hk
      exact hat)
    rw [List.length_map] at hrun hI hF
    have HRUN := Lib.hid hrun
    have HI := Lib.hid hI
    have HF := Lib.hid ((FrM.bel HB2.out hp).trans hF)
    have m3 := (mk_row hr8).2.2.2
    have mz := mk_froz (i := 3) hr8
    have mp := mk_lt hr8
    clear hrun hI hF hr8 hG8 hgr hat hb8 hr1 l3
    refine wpAnyH_ready (rs := [7]) (by as_aux_lemma => kernel_rfl) (List.cons_ne_nil _ _) ?_
    refine AllReadyH.cons (o := { dst := some 11, op := Go.Op.call { callee := Go.Callee.builtin Go.Builtin.append, args := #[Go.Operand.tmp 8, Go.Operand.tmp 10], argTypes := #[23, 23] }, type := 23, pos := "outright.go:28", after := #[{ on := 4, ground := Go.Ground.data }, { on := 6, ground := Go.Ground.data }, { on := 6, ground := Go.Ground.chain }], guard := none }) rfl (fun K hK => ?_) AllReadyH.nil
    refine Lib.wp_append_run _ (.tmp 8) (.tmp 10) _ _ rfl _ _ rfl rfl _ _ HRUN.out ?_
    refine hK.out _ _ (Lib.hid trivial) (fun hHeld2 => ?_)
    clear hK K hHeld
    have hHeld := hHeld2
    clear hHeld2
    try simp only [Act.put, List.setIfInBounds_toArray, List.set_cons_zero, List.set_cons_succ]
    refine wpAnyH_ready (rs := [8]) (by as_aux_lemma => kernel_rfl) (List.cons_ne_nil _ _) ?_
    refine AllReadyH.cons (o := { dst := some 12, op := Go.Op.nilCheck (Go.Operand.tmp 4), type := 0, pos := "outright.go:28", after := #[{ on := 0, ground := Go.Ground.data }, { on := 0, ground := Go.Ground.phase }, { on := 1, ground := Go.Ground.phase }, { on := 2, ground := Go.Ground.phase }, { on := 3, ground := Go.Ground.phase }, { on := 4, ground := Go.Ground.phase }, { on := 5, ground := Go.Ground.phase }, { on := 6, ground := Go.Ground.phase }, { on := 7, ground := Go.Ground.phase }], guard := none }) rfl (fun K hK => ?_) AllReadyH.nil
    go_simp
    refine hK.out _ _ hHeld (fun _ => ?_)
    clear hK K
    try simp only [Act.put, List.setIfInBounds_toArray, List.set_cons_zero, List.set_cons_succ]
    refine wpAnyH_ready (rs := [9]) (by as_aux_lemma => kernel_rfl) (List.cons_ne_nil _ _) ?_
    refine AllReadyH.cons (o := { dst := some 13, op := Go.Op.fieldAddr 46 (Go.Operand.tmp 12) 3, type := 0, pos := "outright.go:28", after := #[{ on := 8, ground := Go.Ground.data }, { on := 0, ground := Go.Ground.phase }, { on := 1, ground := Go.Ground.phase }, { on := 2, ground := Go.Ground.phase }, { on := 3, ground := Go.Ground.phase }, { on := 4, ground := Go.Ground.phase }, { on := 5, ground := Go.Ground.phase }, { on := 6, ground := Go.Ground.phase }, { on := 7, ground := Go.Ground.phase }], guard := none }) rfl (fun K hK => ?_) AllReadyH.nil
    go_simp
    refine hK.out _ _ hHeld (fun _ => ?_)
    clear hK K
    try simp only [Act.put, List.setIfInBounds_toArray, List.set_cons_zero, List.set_cons_succ]
    refine wpAnyH_ready (rs := [10]) (by as_aux_lemma => kernel_rfl) (List.cons_ne_nil _ _) ?_
    refine AllReadyH.cons (o := { dst := none, op := Go.Op.store 23 (Go.Operand.tmp 13) (Go.Operand.tmp 11), type := 0, pos := "outright.go:28", after := #[{ on := 9, ground := Go.Ground.data }, { on := 7, ground := Go.Ground.data }, { on := 7, ground := Go.Ground.chain }, { on := 0, ground := Go.Ground.phase }, { on := 1, ground := Go.Ground.phase }, { on := 2, ground := Go.Ground.phase }, { on := 3, ground := Go.Ground.phase }, { on := 4, ground := Go.Ground.phase }, { on := 5, ground := Go.Ground.phase }, { on := 6, ground := Go.Ground.phase }, { on := 7, ground := Go.Ground.phase }], guard := none }) rfl (fun K hK => ?_) AllReadyH.nil
    go_wp2_with fail
    refine hK.out _ _ (Lib.hid trivial) (fun _ => ?_)
    clear hK K
    try simp only [Act.put, List.setIfInBounds_toArray, List.set_cons_zero, List.set_cons_succ]
    refine wpAnyH_done (by kernel_rfl) ?_ _
    refine NoPanic.normal ?_
    go_wp2_with fail
    exact ⟨rfl, .tuple #[], by first | rfl | simp [results, Tryz.results25, go_sem], rfl, HI.out, HF.out⟩
  · go_simp
    refine HT.out.mono ?_
    rintro e w1 ⟨A1, c1, rfl, hT1, hb⟩
    have HB2 := Lib.hid (after HB1.out hb)
    have HT1 := Lib.hid hT1
    have l3 := (mk_row ((HB2.out.block p hp).trans HRow.out)).2.2.2
    clear hb hT1 HT k3
    go_wp2_with fail
    refine hK.out _ _ (Lib.hid trivial) (fun _ => ?_)
    clear hK K
    try simp only [Act.put, List.setIfInBounds_toArray, List.set_cons_zero, List.set_cons_succ]
    refine wpAnyH_ready (rs := [4]) (by as_aux_lemma => kernel_rfl) (List.cons_ne_nil _ _) ?_
    refine AllReadyH.cons (o := { dst := some 8, op := Go.Op.load 23 (Go.Operand.tmp 7), type := 23, pos := "outright.go:28", after := #[{ on := 3, ground := Go.Ground.data }], guard := none }) rfl (fun K hK => ?_) AllReadyH.nil
    go_simp
    refine hK.out _ _ (Lib.hid trivial) (fun _ => ?_)
    clear hK K
    try simp only [Act.put, List.setIfInBounds_toArray, List.set_cons_zero, List.set_cons_succ]
    have hr1 := (HB2.out.block p hp).trans HRow.out
    obtain ⟨g, cap, w8, hrun, hG8, hgr, hat, hb8⟩ := cat_grown (HG.out.bel HB2.out) HT1.out (by rw [List.length_map]; exact hlen) (by rw [List.length_map]; exact h0) 23
    obtain ⟨hI, hF, hr8⟩ := MkI.grow hM h1 h2 (HC.out.frm hM hp (fun k e => (HG.out.le ((outB_is HRow.out).1 e)).1) (.bel HB2.out hp)) hr1 (HG.out.bel HB2.out) hgr hG8 (fun k hk => by
      simp [Value.ownBlock] at hk
      subst hk
      exact hat)
    rw [List.length_map] at hrun hI hF
    have HRUN := Lib.hid hrun
    have HI := Lib.hid hI
    have HF := Lib.hid ((FrM.bel HB2.out hp).trans hF)
    have m3 := (mk_row hr8).2.2.2
    have mz := mk_froz (i := 3) hr8
    have mp := mk_lt hr8
    clear hrun hI hF hr8 hG8 hgr hat hb8 hr1 l3
    refine wpAnyH_ready (rs := [7]) (by as_aux_lemma => kernel_rfl) (List.cons_ne_nil _ _) ?_
    refine AllReadyH.cons (o := { dst := some 11, op := Go.Op.call { callee := Go.Callee.builtin Go.Builtin.append, args := #[Go.Operand.tmp 8, Go.Operand.tmp 10], argTypes := #[23, 23] }, type := 23, pos := "outright.go:28", after := #[{ on := 4, ground := Go.Ground.data }, { on := 6, ground := Go.Ground.data }, { on := 6, ground := Go.Ground.chain }], guard := none }) rfl (fun K hK => ?_) AllReadyH.nil
    refine Lib.wp_append_run _ (.tmp 8) (.tmp 10) _ _ rfl _ _ rfl rfl _ _ HRUN.out ?_
    refine hK.out _ _ (Lib.hid trivial) (fun hHeld2 => ?_)
    clear hK K hHeld
    have hHeld := hHeld2
    clear hHeld2
    try simp only [Act.put, List.setIfInBounds_toArray, List.set_cons_zero, List.set_cons_succ]
    refine wpAnyH_ready (rs := [8]) (by as_aux_lemma => kernel_rfl) (List.cons_ne_nil _ _) ?_
    refine AllReadyH.cons (o := { dst := some 12, op := Go.Op.nilCheck (Go.Operand.tmp 4), type := 0, pos := "outright.go:28", after := #[{ on := 0, ground := Go.Ground.data }, { on := 0, ground := Go.Ground.phase }, { on := 1, ground := Go.Ground.phase }, { on := 2, ground := Go.Ground.phase }, { on := 3, ground := Go.Ground.phase }, { on := 4, ground := Go.Ground.phase }, { on := 5, ground := Go.Ground.phase }, { on := 6, ground := Go.Ground.phase }, { on := 7, ground := Go.Ground.phase }], guard := none }) rfl (fun K hK => ?_) AllReadyH.nil
    go_simp
    refine hK.out _ _ hHeld (fun _ => ?_)
    clear hK K
    try simp only [Act.put, List.setIfInBounds_toArray, List.set_cons_zero, List.set_cons_succ]
    refine wpAnyH_ready (rs := [9]) (by as_aux_lemma => kernel_rfl) (List.cons_ne_nil _ _) ?_
    refine AllReadyH.cons (o := { dst := some 13, op := Go.Op.fieldAddr 46 (Go.Operand.tmp 12) 3, type := 0, pos := "outright.go:28", after := #[{ on := 8, ground := Go.Ground.data }, { on := 0, ground := Go.Ground.phase }, { on := 1, ground := Go.Ground.phase }, { on := 2, ground := Go.Ground.phase }, { on := 3, ground := Go.Ground.phase }, { on := 4, ground := Go.Ground.phase }, { on := 5, ground := Go.Ground.phase }, { on := 6, ground := Go.Ground.phase }, { on := 7, ground := Go.Ground.phase }], guard := none }) rfl (fun K hK => ?_) AllReadyH.nil
    go_simp
    refine hK.out _ _ hHeld (fun _ => ?_)
    clear hK K
    try simp only [Act.put, List.setIfInBounds_toArray, List.set_cons_zero, List.set_cons_succ]
    refine wpAnyH_ready (rs := [10]) (by as_aux_lemma => kernel_rfl) (List.cons_ne_nil _ _) ?_
    refine AllReadyH.cons (o := { dst := none, op := Go.Op.store 23 (Go.Operand.tmp 13) (Go.Operand.tmp 11), type := 0, pos := "outright.go:28", after := #[{ on := 9, ground := Go.Ground.data }, { on := 7, ground := Go.Ground.data }, { on := 7, ground := Go.Ground.chain }, { on := 0, ground := Go.Ground.phase }, { on := 1, ground := Go.Ground.phase }, { on := 2, ground := Go.Ground.phase }, { on := 3, ground := Go.Ground.phase }, { on := 4, ground := Go.Ground.phase }, { on := 5, ground := Go.Ground.phase }, { on := 6, ground := Go.Ground.phase }, { on := 7, ground := Go.Ground.phase }], guard := none }) rfl (fun K hK => ?_) AllReadyH.nil
    go_wp2_with fail
    refine hK.out _ _ (Lib.hid trivial) (fun _ => ?_)
    clear hK K
    try simp only [Act.put, List.setIfInBounds_toArray, List.set_cons_zero, List.set_cons_succ]
    refine wpAnyH_done (by kernel_rfl) ?_ _
    refine NoPanic.normal ?_
    go_wp2_with fail
    exact ⟨rfl, .tuple #[], by first | rfl | simp [results, Tryz.results25, go_sem], rfl, HI.out, HF.out⟩
end Go.Proofs.YtipepljmfgjbpaaGreatDoor.E6

namespace Go.Proofs.YtipepljmfgjbpaaGreatDoor.E6
open Go Go.RowKit Go.Proofs.YtipepljmfgjbpaaGreatDoor Go.Proofs.YtipepljmfgjbpaaGreatDoor.E5

theorem conv_one (w : World) (g : Nat) (x : UInt8) (h : w.cell? ⟨g, 0, none⟩ = some (.int .u8 x.toNat)) :
    (convert 22 9 (.slice (some ⟨g, 0, none⟩) 1 1)).run Tryz.prog w = .ok (.string ⟨#[x]⟩) w := by
  rw [run_convert_bytes_arg (w := w) (P := Tryz.prog) 22 5 Tryz.underlying22 Tryz.underlying5 g 0 1 1 [(x.toNat : Int)] rfl (fun i hi => by rw [show i = 0 by omega]; exact h) 9 Tryz.underlying9]
  simp [strOfNums]
/-- One byte made into a string, out of a new block. -/
theorem conv_new (w : World) (n : Nat) (hn : n < 256) : (convert 22 9 (.slice (some ⟨w.heap.size, 0, none⟩) 1 1)).run Tryz.prog (w.alloc (.cells #[.int .u8 (n : Int)] 5)) = .ok (.string (B [UInt8.ofNat n])) (w.alloc (.cells #[.int .u8 (n : Int)] 5)) := by
  have h := conv_one (w.alloc (.cells #[.int .u8 (n : Int)] 5)) w.heap.size (UInt8.ofNat n) (by
    rw [S3.newCell w #[.int .u8 (n : Int)] 5 0 _ rfl]
    simp [Nat.mod_eq_of_lt hn])
  exact h
theorem nm_all : ∀ b : Fin 256, wtk (nmW b.1) = (1, nmW b.1) := by decide +kernel
theorem nm_wtk {b : Nat} (h : b < 256) : wtk (nmW b) = (1, nmW b) := nm_all ⟨b, h⟩
theorem nmW_len (b : Nat) : (nmW b).length ≤ 4 := by unfold nmW; split <;> simp
/-- One word in a new row. -/
theorem strL_one (W : World) {s : Bytes} (h0 : s ≠ []) (h1 : s.length ≤ 1000000) : StrL (W.alloc (.cells #[.string (B s)] 9)) (W.alloc (.cells #[.string (B s)] 9)).heap.size (.slice (some ⟨W.heap.size, 0, none⟩) 1 1) [s] :=
  ⟨_, 1, rfl, by simp, fun i t hi => by
    rcases i with _ | i
    · simp at hi; subst hi
      exact ⟨h0, h1, W.heap.size, 0, rfl, by rw [S3.sz1]; omega, S3.newCell W #[.string (B s)] 9 0 _ rfl⟩
    · simp at hi⟩
theorem B_snoc (x : Bytes) (y : Bytes) : B x ++ B y = B (x ++ y) := by
  apply ByteArray.ext
  rw [ByteArray.data_append]
  simp
set_option maxRecDepth 100000 in
set_option maxHeartbeats 4000000 in
theorem nameM_lo {W : World} {p M : Nat} {all cs : List Nat} {left : Int} {out : TL} (h : MkI W p M all cs left out) (hlen : out.length + 1 ≤ 1000000) (hb : hdB cs < 200) :
    Calls Tryz.prog 26 #[mpt p] W (MkP W p M all (tlB cs) left (out ++ [wtk (nmW (hdB cs))]) (.string (B (nmW (hdB cs))))) := by
  have hp := h.p_lt
  have h256 := h.byt.hd
  have q1 : ¬ (200 : Int) ≤ (hdB cs : Int) := by omega
  have C := Lib.hid (byteM h)
  have hnm : nmW (hdB cs) = [UInt8.ofNat (97 + hdB cs % 26)] := by unfold nmW; rw [if_neg (by omega)]
  rw [hnm]
  clear h hnm
  generalize hdB cs = b at *
  have hcv := fun W => conv_new W (97 + b % 26) (by omega)
  rw [show ((97 + b % 26 : Nat) : Int) = 97 + (b : Int) % 26 by omega] at hcv
  generalize hx : UInt8.ofNat (97 + b % 26) = x at *
  go_enter Tryz.func26, Tryz.ntmps26
  try simp only [List.append_eq, List.cons_append, List.nil_append]
  go_wp2_with fail
  refine C.out.mono ?_
  rintro E w1 ⟨rfl, hI, hF⟩
  have HI := Lib.hid hI
  have HF := Lib.hid hF
  have hcv := hcv w1
  have hp1 := hI.p_lt
  clear hI hF C hx
  have hS := strL_one (w1.alloc (.cells #[.int .u8 (97 + (b : Int) % 26)] 5)) (s := [x]) (by simp) (by simp)
  rw [S3.sz1 w1] at hS
  have HW := Lib.hid (after (S3.bal w1 (.cells #[.int .u8 (97 + (b : Int) % 26)] 5)) (S3.bal _ (.cells #[.string (B [x])] 9)))
  have D := Lib.hid (addM (HI.out.bel HW.out) hS (by simp) (by simpa using hlen))
  clear hS hcv
  go_wp2_with fail
  refine D.out.mono ?_
  rintro E w2 ⟨rfl, hI, hF⟩
  have HI2 := Lib.hid hI
  have HF2 := Lib.hid ((HF.out.trans (.bel HW.out hp1)).trans hF)
  clear hI hF D HI HF
  go_wp2_with fail
  go_ret
  exact ⟨rfl, HI2.out, HF2.out⟩
set_option maxRecDepth 100000 in
set_option maxHeartbeats 4000000 in
theorem nameM_hi {W : World} {p M : Nat} {all cs : List Nat} {left : Int} {out : TL} (h : MkI W p M all cs left out) (hlen : out.length + 1 ≤ 1000000) (hb : 200 ≤ hdB cs) :
    Calls Tryz.prog 26 #[mpt p] W (MkP W p M all (tlB cs) left (out ++ [wtk (nmW (hdB cs))]) (.string (B (nmW (hdB cs))))) := by
  have hp := h.p_lt
  have h256 := h.byt.hd
  have q1 : (200 : Int) ≤ (hdB cs : Int) := by omega
  have C := Lib.hid (byteM h)
  have hnm : nmW (hdB cs) = [UInt8.ofNat (97 + hdB cs % 26), 95, 57, 90] := by unfold nmW; rw [if_pos hb]
  rw [hnm]
  clear h hnm
  generalize hdB cs = b at *
  have hcv := fun W => conv_new W (97 + b % 26) (by omega)
  rw [show ((97 + b % 26 : Nat) : Int) = 97 + (b : Int) % 26 by omega] at hcv
  generalize hx : UInt8.ofNat (97 + b % 26) = x at *
  go_enter Tryz.func26, Tryz.ntmps26
  try simp only [List.append_eq, List.cons_append, List.nil_append]
  go_wp2_with fail
  refine C.out.mono ?_
  rintro E w1 ⟨rfl, hI, hF⟩
  have HI := Lib.hid hI
  have HF := Lib.hid hF
  have hcv := hcv w1
  have hp1 := hI.p_lt
  clear hI hF C hx
  have hs : (B [x] ++ B [95, 57, 90] : ByteArray) = B [x, 95, 57, 90] := B_snoc _ _
  rw [show B [95, 57, 90] = (⟨#[95, 57, 90]⟩ : ByteArray) from rfl] at hs
  have hS := strL_one (w1.alloc (.cells #[.int .u8 (97 + (b : Int) % 26)] 5)) (s := [x, 95, 57, 90]) (by simp) (by simp)
  rw [S3.sz1 w1] at hS
  have HW := Lib.hid (after (S3.bal w1 (.cells #[.int .u8 (97 + (b : Int) % 26)] 5)) (S3.bal _ (.cells #[.string (B [x, 95, 57, 90])] 9)))
  have D := Lib.hid (addM (HI.out.bel HW.out) hS (by simp) (by simpa using hlen))
  clear hS hcv
  go_wp2_with fail
  refine D.out.mono ?_
  rintro E w2 ⟨rfl, hI, hF⟩
  have HI2 := Lib.hid hI
  have HF2 := Lib.hid ((HF.out.trans (.bel HW.out hp1)).trans hF)
  clear hI hF D HI HF
  go_wp2_with fail
  go_ret
  exact ⟨rfl, HI2.out, HF2.out⟩
theorem nameM {W : World} {p M : Nat} {all cs : List Nat} {left : Int} {out : TL} (h : MkI W p M all cs left out) (hlen : out.length + 1 ≤ 1000000) :
    Calls Tryz.prog 26 #[mpt p] W (MkP W p M all (tlB cs) left (out ++ [(1, nmW (hdB cs))]) (.string (B (nmW (hdB cs))))) := by
  have e : wtk (nmW (hdB cs)) = (1, nmW (hdB cs)) := nm_wtk h.byt.hd
  rw [← e]
  rcases Nat.lt_or_ge (hdB cs) 200 with hb | hb
  · exact nameM_lo h hlen hb
  · exact nameM_hi h hlen hb
end Go.Proofs.YtipepljmfgjbpaaGreatDoor.E6
