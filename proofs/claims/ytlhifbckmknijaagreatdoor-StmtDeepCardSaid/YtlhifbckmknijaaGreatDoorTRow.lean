/-
  The law's three rows: tokens, the closing ones, where the braces stand.
  StmtDeep, its examples' contract given.
  StmtDeep: the law's walk, its examples' contract given.
-/
import Derived.Test.YtlhifbckmknijaaGreatDoorTForm
import Derived.Test.YtlhifbckmknijaaGreatDoorTTok
import Derived.Test.YtlhifbckmknijaaGreatDoorTEq
import Derived.Test.YtlhifbckmknijaaGreatDoorERow
import Derived.Lib.AppendZeros
import Derived.BigRegion
import Derived.Deep.RegionWith
import Derived.Deep.RegionHeld3
namespace Go.Proofs.YtlhifbckmknijaaGreatDoor.E6
open Go Go.RowKit Go.Proofs.YtlhifbckmknijaaGreatDoor Go.Proofs.YtlhifbckmknijaaGreatDoor.E5

theorem gr_kA {base : Nat} {l : TL} {v : Value} {w : World} (h : S3.GrI kT base l v w) : S3.GrI kA base l v w := by
  obtain ⟨V, h1, h2, h3⟩ := h
  have e : (kA.rows l fun _ => 0) = kT.rows l V := rfl
  refine ⟨fun _ => 0, ?_, fun j a hj => Nat.le_trans (h2 j a hj) (by decide), h3⟩
  rw [e]
  exact h1
def bsV (bs : List Nat) : List Value := bs.map fun (n : Nat) => Value.int .i64 (n : Int)
structure Dp (w wr : World) (T C : TL) (bs : List Nat) (vL vC vB : Value) : Prop where
  l : S3.GrI kA w.heap.size T vL wr
  c : S3.GrI kA w.heap.size C vC wr
  b : wr.ownsRow w.heap.size 3 1 vB bs.length (bsV bs)
  dlc : ∀ b, vL.ownBlock = some b → vC.ownBlock ≠ some b
  dlb : ∀ b, vL.ownBlock = some b → vB.ownBlock ≠ some b
  dcb : ∀ b, vC.ownBlock = some b → vB.ownBlock ≠ some b
  bel : Below w.heap.size w wr
theorem Dp.start (w w0 : World) (hb : Below w.heap.size w w0) : Dp w w0 [] [] [] (.slice none 0 0) (.slice none 0 0) (.slice none 0 0) :=
  ⟨S3.GrI.start kA hb.size (fun _ => 0), S3.GrI.start kA hb.size (fun _ => 0), World.ownsRow_nil _ _ _ _, fun b e => (by cases e), fun b e => (by cases e), fun b e => (by cases e), hb⟩
theorem Dp.bl {w wr w' : World} {T C : TL} {bs : List Nat} {vL vC vB : Value} (h : Dp w wr T C bs vL vC vB) (hb : Below wr.heap.size wr w') : Dp w w' T C bs vL vC vB :=
  ⟨h.l.bel hb, h.c.bel hb, own_keep h.b fun g hg => hb.block g (h.b.lt g hg).2, h.dlc, h.dlb, h.dcb, h.bel.trans (hb.mono h.bel.size)⟩
theorem Dp.appL {w wr : World} {T C m : TL} {bs : List Nat} {vL vC vB : Value} {A : Option Addr} {n c : Nat} (h : Dp w wr T C bs vL vC vB) (hm : TokL wr wr.heap.size (.slice A n c) m) (h0 : 0 < m.length) (L : Nat) (hL : T.length + m.length = L) (hl : L ≤ 1000000) :
    ∃ g cap w', (Builtin.append_ #[22, 22] 22 #[vL, .slice A n c]).run Tryz.prog wr = .ok (.slice (some ⟨g, 0, none⟩) L cap) w' ∧ Dp w w' (T ++ m) C bs (.slice (some ⟨g, 0, none⟩) L cap) vC vB := by
  subst hL
  obtain ⟨g, cap, w', r, G, hg, hat, hb⟩ := cat_grown h.l hm hl h0 22
  have hC : vC.ownBlock ≠ some g := fun e => by
    rcases hat with h1 | h1
    · exact h.dlc g h1 e
    · have := (h.c.le e).2; omega
  have hB : vB.ownBlock ≠ some g := fun e => by
    rcases hat with h1 | h1
    · exact h.dlb g h1 e
    · have := (h.b.lt g e).2; omega
  exact ⟨g, cap, w', r, G, gr_side h.c hg.size fun b hb => hg.block b (h.c.le hb).2 fun e => h.dlc b e.symm hb, own_keep h.b fun b hb => hg.block b (h.b.lt b hb).2 fun e => h.dlb b e.symm hb,
    fun b e => (by cases e; exact hC), fun b e => (by cases e; exact hB), h.dcb, h.bel.trans hb⟩
theorem Dp.appC {w wr : World} {T C m : TL} {bs : List Nat} {vL vC vB : Value} {A : Option Addr} {n c : Nat} (h : Dp w wr T C bs vL vC vB) (hm : TokL wr wr.heap.size (.slice A n c) m) (h0 : 0 < m.length) (L : Nat) (hL : C.length + m.length = L) (hl : L ≤ 1000000) :
    ∃ g cap w', (Builtin.append_ #[22, 22] 22 #[vC, .slice A n c]).run Tryz.prog wr = .ok (.slice (some ⟨g, 0, none⟩) L cap) w' ∧ Dp w w' T (C ++ m) bs vL (.slice (some ⟨g, 0, none⟩) L cap) vB := by
  subst hL
  obtain ⟨g, cap, w', r, G, hg, hat, hb⟩ := cat_grown h.c hm hl h0 22
  have hL : vL.ownBlock ≠ some g := fun e => by
    rcases hat with h1 | h1
    · exact h.dlc g e h1
    · have := (h.l.le e).2; omega
  have hB : vB.ownBlock ≠ some g := fun e => by
    rcases hat with h1 | h1
    · exact h.dcb g h1 e
    · have := (h.b.lt g e).2; omega
  exact ⟨g, cap, w', r, gr_side h.l hg.size fun b hb => hg.block b (h.l.le hb).2 fun e => h.dlc b hb e.symm, G, own_keep h.b fun b hb => hg.block b (h.b.lt b hb).2 fun e => h.dcb b e.symm hb,
    fun b e1 e2 => (by cases e2; exact hL e1), h.dlb, fun b e => (by cases e; exact hB), h.bel.trans hb⟩
theorem Dp.appB {w wr : World} {T C : TL} {bs : List Nat} {vL vC vB : Value} (h : Dp w wr T C bs vL vC vB) (N : Nat) (hN : bs.length = N) (hl : N ≤ 1000) (k : Nat) :
    ∃ g cap w', (Builtin.append_ #[73, 73] 73 #[vB, .slice (some ⟨wr.heap.size, 0, none⟩) 1 1]).run Tryz.prog (wr.alloc (.cells #[.int .i64 (k : Int)] 3)) = .ok (.slice (some ⟨g, 0, none⟩) (N + 1) cap) w' ∧ Dp w w' T C (bs ++ [k]) vL vC (.slice (some ⟨g, 0, none⟩) (N + 1) cap) := by
  subst hN
  obtain ⟨iI, hI, hI0, hI1, hI2⟩ := L4.info_partsT infoInt
  obtain ⟨g, cap, w', r, G, hg, hat⟩ := own_app Tryz.underlying73 hI hI0 hI1 hI2 rfl (by decide) h.b h.bel.size hl (.int .i64 (k : Int)) rfl 73
  have hL : vL.ownBlock ≠ some g := fun e => by
    rcases hat with h1 | h1
    · exact h.dlb g e h1
    · have := (h.l.le e).2; omega
  have hC : vC.ownBlock ≠ some g := fun e => by
    rcases hat with h1 | h1
    · exact h.dcb g e h1
    · have := (h.c.le e).2; omega
  have hsz : wr.heap.size ≤ w'.heap.size := by have := hg.size; rw [S3.sz1] at this; omega
  have far : ∀ b, b < wr.heap.size → vB.ownBlock ≠ some b → w'.heap[b]? = wr.heap[b]? := fun b hlt hne =>
    (hg.block b (by rw [S3.sz1]; omega) fun e => hne e.symm).trans ((S3.bal wr _).block b hlt)
  refine ⟨g, cap, w', r, gr_side h.l hsz fun b hb => far b (h.l.le hb).2 (h.dlb b hb), gr_side h.c hsz fun b hb => far b (h.c.le hb).2 (h.dcb b hb), ?_, h.dlc, fun b e1 e2 => (by cases e2; exact hL e1), fun b e1 e2 => (by cases e2; exact hC e1), own_bel h.b h.bel hg⟩
  rw [show bsV (bs ++ [k]) = bsV bs ++ [.int .i64 (k : Int)] by simp [bsV], List.length_append]
  exact G
/-- What the braces' row reads as. -/
theorem Dp.brace {w wr : World} {T C : TL} {bs : List Nat} {vL vC vB : Value} (h : Dp w wr T C bs vL vC vB) (k : Nat) (n : Nat) (hk : bs[k]? = some n) : ∃ g c, vB = .slice (some ⟨g, 0, none⟩) bs.length c ∧ g < wr.heap.size ∧ wr.cell? ⟨g, k, none⟩ = some (.int .i64 (n : Int)) := by
  have hlt := (List.getElem?_eq_some_iff.1 hk).1
  obtain ⟨_, h1 | ⟨g, cap, cur, rfl, _, hg, h2, h3, h4, h5⟩⟩ := h.b
  · omega
  · refine ⟨g, cap, rfl, lt_of_block hg, ?_⟩
    have h6 : (cur.toList.take (bs.length * 1))[k]? = some (.int .i64 (n : Int)) := by rw [h5]; unfold bsV; rw [List.getElem?_map, hk]; rfl
    rw [List.getElem?_take, if_pos (by omega)] at h6
    refine (cell_of_row wr _ k _ _ _ hg).trans ?_
    simpa using h6
end Go.Proofs.YtlhifbckmknijaaGreatDoor.E6

namespace Go.Proofs.YtlhifbckmknijaaGreatDoor.E6
open Go Go.RowKit Go.Proofs.YtlhifbckmknijaaGreatDoor Go.Proofs.YtlhifbckmknijaaGreatDoor.E5

def TokP (W : World) (base n : Nat) (tl : TL) (E : Ending) (w' : World) : Prop :=
  ∃ A c, E = .returned (.slice A n c) ∧ S3.GrI kA base tl (.slice A n c) w' ∧ TokL w' w'.heap.size (.slice A n c) tl ∧ Below W.heap.size W w'
theorem tok_new (W : World) (ws : List Bytes) (h : okW ws = true) :
    Calls Tryz.prog 36 #[.slice (some ⟨W.heap.size, 0, none⟩) ws.length ws.length] (W.alloc (.cells (ws.map fun s => Value.string (B s)).toArray 9)) (TokP W (W.heap.size + 1) ws.length (ws.map wtk)) := by
  refine (tokens_own (strL_new W ws 9 h)).mono fun E w' ⟨A, c, h1, h2, h3⟩ => ?_
  have hl : ws.length ≤ 1000 := by unfold okW at h; simp only [Bool.and_eq_true, decide_eq_true_eq] at h; exact h.1
  rw [S3.sz1] at h2
  exact ⟨A, c, h1, gr_kA h2, tokL_gr h2 (by rw [List.length_map]; omega), after (S3.bal W _) h3⟩
theorem wt_kw (b : Bool) : [kwN b, [97]].map wtk = [(3, kwN b), (1, [97])] := by cases b <;> kernel_rfl
theorem wt_op : [[123]].map wtk = ([(4, [123])] : TL) := by kernel_rfl
theorem wt_sh : [[125]].map wtk = ([(4, [125])] : TL) := by kernel_rfl
theorem wt_rt : [[114, 101, 116, 117, 114, 110], [59]].map wtk = ([(3, wReturn), (4, [59])] : TL) := by kernel_rfl
theorem tok_kw (W : World) (b : Bool) : Calls Tryz.prog 36 #[.slice (some ⟨W.heap.size, 0, none⟩) 2 2] (W.alloc (.cells #[.string (B (kwN b)), .string ⟨#[97]⟩] 9)) (TokP W (W.heap.size + 1) 2 [(3, kwN b), (1, [97])]) := by rw [← wt_kw b]; exact tok_new W [kwN b, [97]] (by cases b <;> decide)
theorem tok_if (W : World) : Calls Tryz.prog 36 #[.slice (some ⟨W.heap.size, 0, none⟩) 2 2] (W.alloc (.cells #[.string ⟨#[105, 102]⟩, .string ⟨#[97]⟩] 9)) (TokP W (W.heap.size + 1) 2 [(3, kwN false), (1, [97])]) := tok_kw W false
theorem tok_wh (W : World) : Calls Tryz.prog 36 #[.slice (some ⟨W.heap.size, 0, none⟩) 2 2] (W.alloc (.cells #[.string ⟨#[119, 104, 105, 108, 101]⟩, .string ⟨#[97]⟩] 9)) (TokP W (W.heap.size + 1) 2 [(3, kwN true), (1, [97])]) := tok_kw W true
theorem tok_op (W : World) : Calls Tryz.prog 36 #[.slice (some ⟨W.heap.size, 0, none⟩) 1 1] (W.alloc (.cells #[.string ⟨#[123]⟩] 9)) (TokP W (W.heap.size + 1) 1 [(4, [123])]) := by rw [← wt_op]; exact tok_new W [[123]] (by decide)
theorem tok_sh (W : World) : Calls Tryz.prog 36 #[.slice (some ⟨W.heap.size, 0, none⟩) 1 1] (W.alloc (.cells #[.string ⟨#[125]⟩] 9)) (TokP W (W.heap.size + 1) 1 [(4, [125])]) := by rw [← wt_sh]; exact tok_new W [[125]] (by decide)
theorem tok_rt (W : World) : Calls Tryz.prog 36 #[.slice (some ⟨W.heap.size, 0, none⟩) 2 2] (W.alloc (.cells #[.string ⟨#[114, 101, 116, 117, 114, 110]⟩, .string ⟨#[59]⟩] 9)) (TokP W (W.heap.size + 1) 2 [(3, wReturn), (4, [59])]) := by rw [← wt_rt]; exact tok_new W [[114, 101, 116, 117, 114, 110], [59]] (by decide)
def bitK (q k : Nat) : Bool := q / 2 ^ k % 2 == 1
def ksN (q n : Nat) : List Bool := (List.range n).map (bitK q)
def bsN (n : Nat) : List Nat := (List.range n).map fun k => 3 * k + 2
theorem heads_succ (q n : Nat) : headsT (ksN q (n + 1)) = headsT (ksN q n) ++ [(3, kwN (bitK q n)), (1, [97])] ++ [(4, [123])] := by
  unfold headsT ksN
  rw [List.range_succ, List.map_append, List.flatMap_append]
  simp
theorem heads_len (q n : Nat) : (headsT (ksN q n)).length = 3 * n := by
  induction n with
  | zero => rfl
  | succ n ih => rw [heads_succ]; simp [ih]; omega
theorem bs_succ (n : Nat) : bsN (n + 1) = bsN n ++ [3 * n + 2] := by unfold bsN; rw [List.range_succ, List.map_append]; rfl
theorem bs_len (n : Nat) : (bsN n).length = n := by unfold bsN; simp
theorem ks_len (q n : Nat) : (ksN q n).length = n := by unfold ksN; simp
theorem nest_made (q n : Nat) : headsT (ksN q n) ++ [(3, wReturn), (4, [59])] ++ List.replicate n (4, [125]) = nestT (ksN q n) := by rw [nest_is, ks_len]
theorem and_bit (q k : Nat) (hq : q ≤ 4294967295) : bits .and .u32 ((q : Int) / 2 ^ k) 1 = ((q / 2 ^ k % 2 : Nat) : Int) := by
  have h1 : ((q : Int) / 2 ^ k) = ((q / 2 ^ k : Nat) : Int) := by simp
  have h2 : q / 2 ^ k < 4294967296 := Nat.lt_of_le_of_lt (Nat.div_le_self _ _) (by omega)
  rw [h1]
  have := u32_and_nat (q / 2 ^ k) 1 h2 (by decide)
  rw [Nat.and_one_is_mod] at this
  exact this
theorem tokUD {W W' : World} {v : Value} {l : TL} (h : TokL W W.heap.size v l) (hb : Below W.heap.size W W') : TokL W' W'.heap.size v l := (h.bel hb).keep hb.size fun _ _ _ => rfl
theorem zero_exactD (w : World) : Calls Tryz.prog 33 #[S3.sV zS (.slice none 0 0) (.slice none 0 0) (.slice none 0 0), S3.sV zS (.slice none 0 0) (.slice none 0 0) (.slice none 0 0)] w fun e w' => e = .returned (.bool true) ∧ Below w.heap.size w w' := by
  have h := exactC_calls zS zS _ _ _ _ _ _ w (S3.ER.nil none 0) (S3.SR.nil none 0) (S3.SR.nil none 0) (S3.ER.nil none 0) (S3.SR.nil none 0) (S3.SR.nil none 0)
  rw [eqX_iff.2 rfl] at h
  exact h
/-- Behind the closing ones. -/
structure Dq (w wr : World) (T : TL) (bs : List Nat) (vL vB : Value) : Prop where
  l : S3.GrI kA w.heap.size T vL wr
  b : ∀ (k n : Nat), bs[k]? = some n → ∃ g c, vB = .slice (some ⟨g, 0, none⟩) bs.length c ∧ g < wr.heap.size ∧ wr.cell? ⟨g, k, none⟩ = some (.int .i64 (n : Int))
  bel : Below w.heap.size w wr
theorem Dp.close {w wr : World} {T C : TL} {bs : List Nat} {vL vC vB : Value} (h : Dp w wr T C bs vL vC vB) (L : Nat) (hL : T.length + C.length = L) (hl : L ≤ 1000000) :
    ∃ A c w', (Builtin.append_ #[22, 22] 22 #[vL, vC]).run Tryz.prog wr = .ok (.slice A L c) w' ∧ Dq w w' (T ++ C) bs (.slice A L c) vB := by
  have hC := tokL_grA h.c (by omega)
  obtain ⟨Ac, cc, rfl⟩ := hC.val
  rcases Nat.eq_zero_or_pos C.length with h0 | h0
  · have hC0 := List.eq_nil_of_length_eq_zero h0
    subst hC0
    obtain ⟨A1, c1, rfl, e1, _⟩ := gr_cap h.l
    obtain ⟨i0, hi, hq0, hq1, hq2⟩ := L4.info_partsT L4.infoTok
    obtain rfl : T.length = L := by simpa using hL
    refine ⟨A1, c1, wr, ?_, by rw [List.append_nil]; exact h.l, fun k n hk => h.brace k n hk, h.bel⟩
    exact append_empty wr _ _ _ i0 Tryz.underlying22 hi A1 Ac _ _ _ e1
  · obtain ⟨g, cap, w', r, D⟩ := h.appL hC h0 L hL hl
    exact ⟨_, cap, w', r, D.l, fun k n hk => D.brace k n hk, D.bel⟩
theorem Dq.bl {w wr w' : World} {T : TL} {bs : List Nat} {vL vB : Value} (h : Dq w wr T bs vL vB) (hb : Below wr.heap.size wr w') : Dq w w' T bs vL vB :=
  ⟨h.l.bel hb, fun k n hk => by
    obtain ⟨g, c, e, h1, h2⟩ := h.b k n hk
    exact ⟨g, c, e, Nat.lt_of_lt_of_le h1 hb.size, (hb.cell (p := ⟨g, k, none⟩) h1).trans h2⟩, h.bel.trans (hb.mono h.bel.size)⟩
end Go.Proofs.YtlhifbckmknijaaGreatDoor.E6

namespace Go.Proofs.YtlhifbckmknijaaGreatDoor.E6
open Go Go.RowKit Go.Proofs.YtlhifbckmknijaaGreatDoor Go.Proofs.YtlhifbckmknijaaGreatDoor.E5

theorem nest_nil_ok : stR (nestT []) 0 21 = .ok (nestS []) 2 := by kernel_rfl
/-- What the law looks at. -/
theorem nest_facts (ks : List Bool) (d : Nat) (_hd : 1 ≤ d) :
    (20 - d < ks.length → stR (nestT ks) 0 (depS d) = .bad (3 * (20 - d) + 2) 8) ∧ (ks.length ≤ 20 - d → stR (nestT ks) 0 (depS d) = .ok (nestS ks) (nestT ks).length) ∧
    (20 < d → blR (blkN ks) 0 (depS d) = .bad 0 8) ∧ (d ≤ 20 → 20 - d < ks.length → blR (blkN ks) 0 (depS d) = .bad (3 * (20 - d) + 2 + 1) 8) ∧
    (d ≤ 20 → ks.length ≤ 20 - d → blR (blkN ks) 0 (depS d) = .ok [nestS ks] ((nestT ks).length + 2)) := by
  have hdp : depS d = min d 21 := by unfold depS; split <;> omega
  have e20 : 20 - min d 21 = 20 - d := by omega
  rw [hdp]
  refine ⟨fun h => ?_, fun h => ?_, fun h => blkN_high ks (by omega), fun h1 h2 => ?_, fun h1 h2 => blkN_ok (by omega)⟩
  · have := nestA_deep (ks := ks) (d := min d 21) (by omega)
    rw [e20] at this
    exact this
  · by_cases h20 : d ≤ 20
    · exact nestA_ok (by omega)
    · have h0 : ks = [] := List.eq_nil_of_length_eq_zero (by omega)
      subst h0
      rw [show min d 21 = 21 by omega]
      exact nest_nil_ok
  · have := blkN_deep (ks := ks) (d := min d 21) (by omega) (by omega)
    rw [e20] at this
    exact this
theorem zs_box (w : World) : SIs w (Rn w.heap.size w.heap.size) zS (.slice none 0 0) (.slice none 0 0) (.slice none 0 0) := by
  refine ⟨?_, S3.ER.nil none 0, S3.SR.nil none 0, S3.SR.nil none 0⟩
  constructor
  · show S3.okI 0; unfold S3.okI; omega
  · show S3.okI 0; unfold S3.okI; omega
  · show S3.okI 0; unfold S3.okI; omega
  · exact Nat.zero_le _
  · exact Nat.zero_le _
set_option maxRecDepth 100000 in
set_option maxHeartbeats 8000000 in
theorem sdeep_law (hWk : WorksR6) (nb nf q : Nat) (hnb : nb ≤ 255) (hnf : nf ≤ 255) (hq : q ≤ 4294967295) (w : World) (hG : Glob6 w) :
    Calls Tryz.prog 8 #[.int .u8 (nb : Int), .int .u8 (nf : Int), .int .u32 (q : Int)] w fun e w' => e = .returned (.bool true) ∧ Below w.heap.size w w' := by
  obtain ⟨n, hn, hn24⟩ : ∃ n : Nat, (nb : Int) % 25 = (n : Int) ∧ n ≤ 24 := ⟨nb % 25, by omega, by omega⟩
  obtain ⟨f0, hf0, hf24⟩ : ∃ f0 : Nat, (nf : Int) % 25 = (f0 : Int) ∧ f0 ≤ 24 := ⟨nf % 25, by omega, by omega⟩
  obtain ⟨d, hd, hd1, hd25⟩ : ∃ d : Nat, (1 : Int) + (f0 : Int) = (d : Int) ∧ 1 ≤ d ∧ d ≤ 25 := ⟨1 + f0, by omega, by omega, by omega⟩
  have hnb' : (nb : Int) ≤ 255 := by omega
  have hnf' : (nf : Int) ≤ 255 := by omega
  have hq' : (q : Int) ≤ 4294967295 := by omega
  have HWk := Lib.hid hWk
  have HG := Lib.hid hG
  have H0 := Lib.hid (show Dp w w (headsT (ksN q 0)) (List.replicate 0 (4, [125])) (bsN 0) (.slice none 0 0) (.slice none 0 0) (.slice none 0 0) from Dp.start w w (Below.refl _ _))
  clear hG hWk
  go_enter Tryz.func8, Tryz.ntmps8
  try simp only [List.append_eq, List.cons_append, List.nil_append]
  go_wp2_with fail
  clear hn hf0 hd
  go_loopw [9, 10, 11, 12] (fun vL vC vB i wr => ∃ k : Nat, k ≤ n ∧ i = .int .i64 (k : Int) ∧ Hid (Dp w wr (headsT (ksN q k)) (List.replicate k (4, [125])) (bsN k) vL vC vB)) (fun _ _ _ i _ => n - (intOf i).toNat)
  case atStart => exact ⟨0, by omega, rfl, H0⟩
  case round =>
    clear H0
    obtain ⟨k, hkn, rfl, HI⟩ := hrel
    by_cases hlt : k < n
    · have d1 : (k : Int) < (n : Int) := by omega
      have hbit := and_bit q k hq
      have hx1 : q / 2 ^ k % 2 = 0 ∨ q / 2 ^ k % 2 = 1 := by omega
      have HS := Lib.hid (heads_succ q k)
      rcases hx1 with hx1 | hx1
      · have hbk : bitK q k = false := by unfold bitK; rw [hx1]; rfl
        rw [hx1] at hbit
        rw [hbk] at HS
        clear hx1 hbk
        have T1 := tok_if (wr.alloc (.cells #[.string ⟨#[105, 102]⟩, .string ⟨#[119, 104, 105, 108, 101]⟩] 9))
        rw [S3.sz1] at T1
        go_wp2_with fail
        refine T1.mono ?_
        clear T1
        rintro e w1 ⟨A1, c1, rfl, _, hT, hb⟩
        obtain ⟨m1, hm1⟩ : ∃ m : Nat, m = 3 * k + 2 := ⟨_, rfl⟩
        obtain ⟨g1, p1, u1, r1, D1⟩ := (HI.out.bl (after (S3.bal wr _) hb)).appL hT (by decide) m1 (by rw [heads_len, hm1]; rfl) (by omega)
        obtain ⟨g2, p2, u2, r2, D2⟩ := D1.appB k (bs_len k) (by omega) m1
        have R1 := Lib.hid r1
        have R2 := Lib.hid r2
        have HD2 := Lib.hid D2
        have HM := Lib.hid hm1
        clear hb hT r1 r2 D1 D2 HI hm1
        go_wp2_with (at_builtin; first | refine Lib.wpList_append_run _ rfl _ _ _ _ rfl _ _ rfl rfl _ _ R1.out ?_ | refine Lib.wpList_append_run _ rfl _ _ _ _ rfl _ _ rfl rfl _ _ R2.out ?_)
        refine (tok_op _).mono ?_
        rintro e w2 ⟨A2, c2, rfl, _, hT, hb⟩
        obtain ⟨g3, p3, u3', r3, D3⟩ := (HD2.out.bl hb).appL hT (by decide) (3 * k + 3) (by simp only [List.length_append, heads_len, List.length_cons, List.length_nil]) (by omega)
        have R3 := Lib.hid r3
        have HD3 := Lib.hid D3
        clear hb hT r3 D3 HD2 R1 R2
        go_wp2_with (at_builtin; refine Lib.wpList_append_run _ rfl _ _ _ _ rfl _ _ rfl rfl _ _ R3.out ?_)
        refine (tok_sh _).mono ?_
        rintro e w3 ⟨A3, c3, rfl, _, hT, hb⟩
        obtain ⟨g4, p4, u4', r4, D4⟩ := (HD3.out.bl hb).appC hT (by decide) (k + 1) (by simp) (by omega)
        rw [← HS.out, ← List.replicate_succ', HM.out, ← bs_succ] at D4
        have R4 := Lib.hid r4
        have HD4 := Lib.hid D4
        clear hb hT r4 D4 HD3 R3
        go_wp2_with (at_builtin; refine Lib.wpList_append_run _ rfl _ _ _ _ rfl _ _ rfl rfl _ _ R4.out ?_)
        go_round
        case rel => exact ⟨k + 1, by omega, by go_num, HD4⟩
        case measure => simp [intOf]; omega
      · have hbk : bitK q k = true := by unfold bitK; rw [hx1]; rfl
        rw [hx1] at hbit
        rw [hbk] at HS
        clear hx1 hbk
        have T1 := tok_wh (wr.alloc (.cells #[.string ⟨#[105, 102]⟩, .string ⟨#[119, 104, 105, 108, 101]⟩] 9))
        rw [S3.sz1] at T1
        go_wp2_with fail
        refine T1.mono ?_
        clear T1
        rintro e w1 ⟨A1, c1, rfl, _, hT, hb⟩
        obtain ⟨m1, hm1⟩ : ∃ m : Nat, m = 3 * k + 2 := ⟨_, rfl⟩
        obtain ⟨g1, p1, u1, r1, D1⟩ := (HI.out.bl (after (S3.bal wr _) hb)).appL hT (by decide) m1 (by rw [heads_len, hm1]; rfl) (by omega)
        obtain ⟨g2, p2, u2, r2, D2⟩ := D1.appB k (bs_len k) (by omega) m1
        have R1 := Lib.hid r1
        have R2 := Lib.hid r2
        have HD2 := Lib.hid D2
        have HM := Lib.hid hm1
        clear hb hT r1 r2 D1 D2 HI hm1
        go_wp2_with (at_builtin; first | refine Lib.wpList_append_run _ rfl _ _ _ _ rfl _ _ rfl rfl _ _ R1.out ?_ | refine Lib.wpList_append_run _ rfl _ _ _ _ rfl _ _ rfl rfl _ _ R2.out ?_)
        refine (tok_op _).mono ?_
        rintro e w2 ⟨A2, c2, rfl, _, hT, hb⟩
        obtain ⟨g3, p3, u3', r3, D3⟩ := (HD2.out.bl hb).appL hT (by decide) (3 * k + 3) (by simp only [List.length_append, heads_len, List.length_cons, List.length_nil]) (by omega)
        have R3 := Lib.hid r3
        have HD3 := Lib.hid D3
        clear hb hT r3 D3 HD2 R1 R2
        go_wp2_with (at_builtin; refine Lib.wpList_append_run _ rfl _ _ _ _ rfl _ _ rfl rfl _ _ R3.out ?_)
        refine (tok_sh _).mono ?_
        rintro e w3 ⟨A3, c3, rfl, _, hT, hb⟩
        obtain ⟨g4, p4, u4', r4, D4⟩ := (HD3.out.bl hb).appC hT (by decide) (k + 1) (by simp) (by omega)
        rw [← HS.out, ← List.replicate_succ', HM.out, ← bs_succ] at D4
        have R4 := Lib.hid r4
        have HD4 := Lib.hid D4
        clear hb hT r4 D4 HD3 R3
        go_wp2_with (at_builtin; refine Lib.wpList_append_run _ rfl _ _ _ _ rfl _ _ rfl rfl _ _ R4.out ?_)
        go_round
        case rel => exact ⟨k + 1, by omega, by go_num, HD4⟩
        case measure => simp [intOf]; omega
    · obtain rfl : k = n := by omega
      go_wp2_with fail
      refine (tok_rt _).mono ?_
      rintro e w1 ⟨A1, c1, rfl, _, hT, hb⟩
      obtain ⟨m1, hm1⟩ : ∃ m : Nat, m = 3 * k + 2 := ⟨_, rfl⟩
      obtain ⟨g1, p1, u1, r1, D1⟩ := (HI.out.bl hb).appL hT (by decide) m1 (by rw [heads_len, hm1]; rfl) (by omega)
      obtain ⟨m2, hm2⟩ : ∃ m : Nat, m = 4 * k + 2 := ⟨_, rfl⟩
      obtain ⟨A2, c2, u2, r2, D2⟩ := D1.close m2 (by simp only [List.length_append, heads_len, List.length_cons, List.length_nil, List.length_replicate]; omega) (by omega)
      rw [nest_made] at D2
      have R1 := Lib.hid r1
      have R2 := Lib.hid r2
      have hkl := ks_len q k
      generalize ksN q k = ks at *
      have hnl : (nestT ks).length = m2 := by rw [nest_len, hkl, hm2]
      have hFs := nest_facts ks d hd1
      rw [hkl, hnl] at hFs
      obtain ⟨dp, hdp⟩ : ∃ x : Nat, x = 20 - d := ⟨_, rfl⟩
      rw [← hdp] at hFs
      obtain ⟨F1, F2, F3, F4, F5⟩ := hFs
      have hmax : max (20 - (d : Int)) 0 = (dp : Int) := by omega
      have hTk := tokL_grA D2.l (by rw [hnl]; omega)
      have hU := D2.bel
      have hBr := D2.b
      rw [bs_len] at hBr
      have hbs : ∀ x, x < k → (bsN k)[x]? = some (3 * x + 2) := fun x hx => by unfold bsN; rw [List.getElem?_map, List.getElem?_range hx]; rfl
      have HTk := Lib.hid hTk
      have HU := Lib.hid hU
      have HBr := Lib.hid hBr
      have HBs := Lib.hid hbs
      have HNL := Lib.hid hnl
      have HM2 := Lib.hid hm2
      have HDP := Lib.hid hdp
      have H1 := Lib.hid F1
      have H2 := Lib.hid F2
      have H3 := Lib.hid F3
      have H4 := Lib.hid F4
      have H5 := Lib.hid F5
      have hm2' : m2 ≤ 1000 := by omega
      have hdp20 : dp ≤ 20 := by omega
      have hP := sparse_calls (i := 0) (d := d) hTk (HG.out.up hU).e (Nat.zero_le _) (HG.out.up hU).g (by rw [hnl]; omega) hd1
      have HP := Lib.hid hP
      clear hb hT r1 r2 D1 D2 HI hnl hTk hU hBr hbs F1 F2 F3 F4 F5 hm1 hm2 hdp hP hkl
      go_wp2_with (at_builtin; first | refine Lib.wpList_append_run _ rfl _ _ _ _ rfl _ _ rfl rfl _ _ R1.out ?_ | refine Lib.wpList_append_run _ rfl _ _ _ _ rfl _ _ rfl rfl _ _ R2.out ?_)
      clear R1 R2
      by_cases hde : 20 - d < k
      · have hde' : dp < k := by rw [HDP.out]; exact hde
        have hlt2 : (dp : Int) < (k : Int) := by omega
        have hP := HP.out
        rw [H1.out hde'] at hP
        refine hP.mono ?_
        clear hP
        rintro E w3 ⟨rfl, hb⟩
        have T1 := tok_op (w3.alloc (S3.sO zS (.slice none 0 0) (.slice none 0 0) (.slice none 0 0)))
        rw [S3.sz1] at T1
        have X3 := S3.SBox.new w3 zS (.slice none 0 0) (.slice none 0 0) (.slice none 0 0)
        have B4 := after hb (S3.bal w3 (S3.sO zS (.slice none 0 0) (.slice none 0 0) (.slice none 0 0)))
        have hz3 := hb.size
        have HB4 := Lib.hid B4
        have HX3 := Lib.hid X3
        have HC4 := Lib.hid (S3.bal w3 (S3.sO zS (.slice none 0 0) (.slice none 0 0) (.slice none 0 0)))
        clear hb X3 B4
        go_wp2_with fail
        refine T1.mono ?_
        clear T1
        rintro e w5 ⟨A5, c5, rfl, hG5, _, hb⟩
        have hz5 : w3.heap.size + 1 ≤ w5.heap.size := by have := hb.size; rw [S3.sz1] at this; exact this
        have HX5 := Lib.hid (HX3.out.keep hb (by rw [S3.sz1]; omega))
        have HB5 := Lib.hid (after HB4.out hb)
        have HC5 := Lib.hid (after HC4.out hb)
        obtain ⟨v6, w6, r6, hG6, hb6⟩ := cat_run hG5 ((tokUD HTk.out HB5.out : TokL w5 w5.heap.size (.slice A2 m2 c2) (nestT ks))) (by rw [HNL.out]; simp only [List.length_cons, List.length_nil]; omega) 22
        have R6 := Lib.hid r6
        have HG6 := Lib.hid hG6
        have HX6 := Lib.hid (HX5.out.keep hb6 (by omega))
        have HB6 := Lib.hid (HB5.out.trans (hb6.mono (by omega)))
        have HC6 := Lib.hid (HC5.out.trans (hb6.mono (by omega)))
        clear hb r6 hG5 hG6 hb6 HX3 HB4 HX5 HC4
        go_wp2_with (at_builtin; refine Lib.wpList_append_run _ rfl _ _ _ _ rfl _ _ rfl rfl _ _ R6.out ?_)
        clear R6
        have T2 := tok_sh w6
        refine T2.mono ?_
        clear T2
        rintro e w7 ⟨A7, c7, rfl, _, hT7, hb⟩
        have HX7 := Lib.hid (HX6.out.keep hb (by have := HB6.out.size; have := World.block_lt_of_cell? _ _ HX6.out.c0; omega))
        have HB7 := Lib.hid (after HB6.out hb)
        have HC7 := Lib.hid (after HC6.out hb)
        have hl6 : ([(4, [123])] ++ nestT ks : TL).length = m2 + 1 := by rw [List.length_append, HNL.out]; simp only [List.length_cons, List.length_nil]; omega
        obtain ⟨v8, w8, r8, hG8, hb8⟩ := cat_run (HG6.out.bel hb) hT7 (by rw [hl6]; simp only [List.length_cons, List.length_nil]; omega) 22
        have R8 := Lib.hid r8
        have hbl : (blkN ks).length ≤ 1000000 := by unfold blkN; rw [List.length_cons, List.length_append, HNL.out]; simp only [List.length_cons, List.length_nil]; omega
        have hT8 : TokL w8 w8.heap.size v8 (blkN ks) := tokL_grA hG8 hbl
        have HX8 := Lib.hid (HX7.out.keep hb8 (by omega))
        have HB8 := Lib.hid (HB7.out.trans (hb8.mono (by omega)))
        have HC8 := Lib.hid (HC7.out.trans (hb8.mono (by omega)))
        have hQ := sblock_calls (i := 0) (d := d) hT8 (HG.out.up (HU.out.trans (HB8.out.mono HU.out.size))).e (Nat.zero_le _) (HG.out.up (HU.out.trans (HB8.out.mono HU.out.size))).g hbl hd1
        have HQ := Lib.hid hQ
        clear hb r8 hG8 hb8 hT7 hT8 hbl hl6 hQ HG6 HX6 HX7 HB6 HB7 HB5 HC5 HC6 HC7
        go_wp2_with (at_builtin; refine Lib.wpList_append_run _ rfl _ _ _ _ rfl _ _ rfl rfl _ _ R8.out ?_)
        clear R8
        by_cases hd20 : 20 < d
        · have hd20' : (20 : Int) < (d : Int) := by omega
          have hQ := HQ.out
          rw [H3.out hd20] at hQ
          refine hQ.mono ?_
          clear hQ
          rintro E w9 ⟨rfl, hb⟩
          have HB9 := Lib.hid (after HB8.out hb)
          obtain ⟨x0, x1, x2, x3, x4, x5, x6, x7⟩ := HX8.out.keep hb (World.block_lt_of_cell? _ _ HX8.out.c0)
          obtain ⟨gb, cb, hvB, hgb, hcb⟩ := HBr.out dp (3 * dp + 2) (HBs.out dp hde')
          have hcb := (HB9.out.cell (p := ⟨gb, dp, none⟩) hgb).trans hcb
          clear hb HX8 HQ
          subst hvB
          go_wp2_with fail
          refine (zero_exactD _).mono ?_
          rintro E wy ⟨rfl, hb⟩
          have HBy := Lib.hid (after HB9.out hb)
          have hcb := (hb.cell (p := ⟨gb, dp, none⟩) (by have := HB9.out.size; show gb < _; omega)).trans hcb
          clear hb
          go_wp2_with fail
          refine (HWk.out _ (HG.out.up (HU.out.trans (HBy.out.mono HU.out.size)))).mono ?_
          rintro E wz ⟨rfl, hb⟩
          have HZ := Lib.hid (HU.out.trans ((after HBy.out hb).mono HU.out.size))
          clear hb
          go_wp2_with fail
          go_ret
          exact ⟨rfl, HZ.out⟩
        · have hd20' : ¬ (20 : Int) < (d : Int) := by omega
          have hQ := HQ.out
          rw [H4.out (by omega) hde'] at hQ
          refine hQ.mono ?_
          clear hQ
          rintro E w9 ⟨rfl, hb⟩
          have HB9 := Lib.hid (after HB8.out hb)
          obtain ⟨x0, x1, x2, x3, x4, x5, x6, x7⟩ := HX8.out.keep hb (World.block_lt_of_cell? _ _ HX8.out.c0)
          obtain ⟨gb, cb, hvB, hgb, hcb⟩ := HBr.out dp (3 * dp + 2) (HBs.out dp hde')
          have hcb := (HB9.out.cell (p := ⟨gb, dp, none⟩) hgb).trans hcb
          clear hb HX8 HQ
          subst hvB
          go_wp2_with fail
          refine (zero_exactD _).mono ?_
          rintro E wy ⟨rfl, hb⟩
          have HBy := Lib.hid (after HB9.out hb)
          have hcb := (hb.cell (p := ⟨gb, dp, none⟩) (by have := HB9.out.size; show gb < _; omega)).trans hcb
          clear hb
          go_wp2_with fail
          refine (HWk.out _ (HG.out.up (HU.out.trans (HBy.out.mono HU.out.size)))).mono ?_
          rintro E wz ⟨rfl, hb⟩
          have HZ := Lib.hid (HU.out.trans ((after HBy.out hb).mono HU.out.size))
          clear hb
          go_wp2_with fail
          go_ret
          exact ⟨rfl, HZ.out⟩
      · have hde' : k ≤ dp := by rw [HDP.out]; omega
        have hlt2 : ¬ (dp : Int) < (k : Int) := by omega
        have hP := HP.out
        rw [H2.out hde'] at hP
        refine hP.mono ?_
        clear hP
        rintro E w3 ⟨va, vb, ve, rfl, hS, hb⟩
        obtain ⟨Aa, ca, rfl⟩ := hS.a.slice
        obtain ⟨Ab, cb, rfl⟩ := hS.b.slice
        obtain ⟨Ae, ce, rfl⟩ := hS.e.slice
        have HS3 := Lib.hid hS
        clear hS
        generalize hss : nestS ks = ss at *
        have T1 := tok_op (w3.alloc (S3.sO ss (.slice Aa ss.args.length ca) (.slice Ab ss.body.length cb) (.slice Ae ss.els.length ce)))
        rw [S3.sz1] at T1
        have X3 := S3.SBox.new w3 ss (.slice Aa ss.args.length ca) (.slice Ab ss.body.length cb) (.slice Ae ss.els.length ce)
        have B4 := after hb (S3.bal w3 (S3.sO ss (.slice Aa ss.args.length ca) (.slice Ab ss.body.length cb) (.slice Ae ss.els.length ce)))
        have hz3 := hb.size
        have HB4 := Lib.hid B4
        have HX3 := Lib.hid X3
        have HC4 := Lib.hid (S3.bal w3 (S3.sO ss (.slice Aa ss.args.length ca) (.slice Ab ss.body.length cb) (.slice Ae ss.els.length ce)))
        clear hb X3 B4
        go_wp2_with fail
        refine T1.mono ?_
        clear T1
        rintro e w5 ⟨A5, c5, rfl, hG5, _, hb⟩
        have hz5 : w3.heap.size + 1 ≤ w5.heap.size := by have := hb.size; rw [S3.sz1] at this; exact this
        have HX5 := Lib.hid (HX3.out.keep hb (by rw [S3.sz1]; omega))
        have HB5 := Lib.hid (after HB4.out hb)
        have HC5 := Lib.hid (after HC4.out hb)
        obtain ⟨v6, w6, r6, hG6, hb6⟩ := cat_run hG5 ((tokUD HTk.out HB5.out : TokL w5 w5.heap.size (.slice A2 m2 c2) (nestT ks))) (by rw [HNL.out]; simp only [List.length_cons, List.length_nil]; omega) 22
        have R6 := Lib.hid r6
        have HG6 := Lib.hid hG6
        have HX6 := Lib.hid (HX5.out.keep hb6 (by omega))
        have HB6 := Lib.hid (HB5.out.trans (hb6.mono (by omega)))
        have HC6 := Lib.hid (HC5.out.trans (hb6.mono (by omega)))
        clear hb r6 hG5 hG6 hb6 HX3 HB4 HX5 HC4
        go_wp2_with (at_builtin; refine Lib.wpList_append_run _ rfl _ _ _ _ rfl _ _ rfl rfl _ _ R6.out ?_)
        clear R6
        have T2 := tok_sh w6
        refine T2.mono ?_
        clear T2
        rintro e w7 ⟨A7, c7, rfl, _, hT7, hb⟩
        have HX7 := Lib.hid (HX6.out.keep hb (by have := HB6.out.size; have := World.block_lt_of_cell? _ _ HX6.out.c0; omega))
        have HB7 := Lib.hid (after HB6.out hb)
        have HC7 := Lib.hid (after HC6.out hb)
        have hl6 : ([(4, [123])] ++ nestT ks : TL).length = m2 + 1 := by rw [List.length_append, HNL.out]; simp only [List.length_cons, List.length_nil]; omega
        obtain ⟨v8, w8, r8, hG8, hb8⟩ := cat_run (HG6.out.bel hb) hT7 (by rw [hl6]; simp only [List.length_cons, List.length_nil]; omega) 22
        have R8 := Lib.hid r8
        have hbl : (blkN ks).length ≤ 1000000 := by unfold blkN; rw [List.length_cons, List.length_append, HNL.out]; simp only [List.length_cons, List.length_nil]; omega
        have hT8 : TokL w8 w8.heap.size v8 (blkN ks) := tokL_grA hG8 hbl
        have HX8 := Lib.hid (HX7.out.keep hb8 (by omega))
        have HB8 := Lib.hid (HB7.out.trans (hb8.mono (by omega)))
        have HC8 := Lib.hid (HC7.out.trans (hb8.mono (by omega)))
        have hQ := sblock_calls (i := 0) (d := d) hT8 (HG.out.up (HU.out.trans (HB8.out.mono HU.out.size))).e (Nat.zero_le _) (HG.out.up (HU.out.trans (HB8.out.mono HU.out.size))).g hbl hd1
        have HQ := Lib.hid hQ
        clear hb r8 hG8 hb8 hT7 hT8 hbl hl6 hQ HG6 HX6 HX7 HB6 HB7 HB5 HC5 HC6 HC7
        go_wp2_with (at_builtin; refine Lib.wpList_append_run _ rfl _ _ _ _ rfl _ _ rfl rfl _ _ R8.out ?_)
        clear R8
        by_cases hd20 : 20 < d
        · have hd20' : (20 : Int) < (d : Int) := by omega
          have hQ := HQ.out
          rw [H3.out hd20] at hQ
          refine hQ.mono ?_
          clear hQ
          rintro E w9 ⟨rfl, hb⟩
          have HB9 := Lib.hid (after HB8.out hb)
          clear hb HX8 HQ
          go_wp2_with fail
          refine (HWk.out _ (HG.out.up (HU.out.trans (HB9.out.mono HU.out.size)))).mono ?_
          rintro E wz ⟨rfl, hb⟩
          have HZ := Lib.hid (HU.out.trans ((after HB9.out hb).mono HU.out.size))
          clear hb
          go_wp2_with fail
          go_ret
          exact ⟨rfl, HZ.out⟩
        · have hd20' : ¬ (20 : Int) < (d : Int) := by omega
          have hQ := HQ.out
          rw [H5.out (by omega) hde'] at hQ
          refine hQ.mono ?_
          clear hQ
          rintro E w9 ⟨A9, c9, hE9, hSR, hb⟩
          have hE9' : E = .returned (.tuple #[.slice A9 1 c9, .int .i64 ((m2 : Int) + 2), .int .i64 0]) := by rw [hE9, show ((m2 + 2 : Nat) : Int) = (m2 : Int) + 2 by omega]; rfl
          clear hE9
          subst hE9'
          have HB9 := Lib.hid (after HB8.out hb)
          obtain ⟨x0, x1, x2, x3, x4, x5, x6, x7⟩ := HX8.out.keep hb (World.block_lt_of_cell? _ _ HX8.out.c0)
          have hin : S3.SIn w9 w9.heap.size [ss] (.slice A9 1 c9) := hSR.keep (fun _ hx => hx.2) fun _ _ _ => rfl
          obtain ⟨h1l, hat⟩ := hin.at_
          clear h1l
          obtain ⟨b9, o9, ua, ub, ue, rfl, hb9l, _, hce, hua, hub, hue⟩ := hat 0 (by simp)
          simp only [List.getElem_cons_zero, Nat.zero_mul, Nat.add_zero] at hce hua hub hue
          obtain ⟨y0, y1, y2, y3, y4, y5, y6, y7⟩ := hce
          obtain ⟨Ba, da, rfl⟩ := hua.slice
          obtain ⟨Bb, db, rfl⟩ := hub.slice
          obtain ⟨Be, de, rfl⟩ := hue.slice
          have hS9 := HS3.out.bel (after HC8.out hb)
          have hE := fun W (hW : Below w9.heap.size w9 W) => exactC_calls ss ss _ _ _ _ _ _ W (hua.up hW) (hub.up hW) (hue.up hW) (er_in (er_bel hS9.a hW) (Nat.le_refl _)) ((sr_bel hS9.b hW).keep (fun _ hx => hx.2) fun _ _ _ => rfl) ((sr_bel hS9.e hW).keep (fun _ hx => hx.2) fun _ _ _ => rfl)
          rw [eqX_iff.2 rfl] at hE
          have HE := Lib.hid hE
          clear hE hS9 hin hat
          have hx3 : w3.heap.size < w9.heap.size := World.block_lt_of_cell? _ _ x0
          have hS0 := Lib.hid (E6.bal_dr w9)
          have q1 : IntKind.i64.wrap ((m2 : Int) + 2) = (m2 : Int) + 2 := IntWalk.i64_in _ (by omega)
          have q3 : ((m2 : Int) + 2 == (m2 : Int) + 2) = true := by simp
          have qx0 := fun W1 (h : Hid (Below w9.heap.size w9 W1)) => (h.out.cell (p := ⟨w3.heap.size, 0, none⟩) hx3).trans x0
          have qx1 := fun W1 (h : Hid (Below w9.heap.size w9 W1)) => (h.out.cell (p := ⟨w3.heap.size, 1, none⟩) hx3).trans x1
          have qx2 := fun W1 (h : Hid (Below w9.heap.size w9 W1)) => (h.out.cell (p := ⟨w3.heap.size, 2, none⟩) hx3).trans x2
          have qx3 := fun W1 (h : Hid (Below w9.heap.size w9 W1)) => (h.out.cell (p := ⟨w3.heap.size, 3, none⟩) hx3).trans x3
          have qx4 := fun W1 (h : Hid (Below w9.heap.size w9 W1)) => (h.out.cell (p := ⟨w3.heap.size, 4, none⟩) hx3).trans x4
          have qx5 := fun W1 (h : Hid (Below w9.heap.size w9 W1)) => (h.out.cell (p := ⟨w3.heap.size, 5, none⟩) hx3).trans x5
          have qx6 := fun W1 (h : Hid (Below w9.heap.size w9 W1)) => (h.out.cell (p := ⟨w3.heap.size, 6, none⟩) hx3).trans x6
          have qx7 := fun W1 (h : Hid (Below w9.heap.size w9 W1)) => (h.out.cell (p := ⟨w3.heap.size, 7, none⟩) hx3).trans x7
          have qy0 := fun W1 (h : Hid (Below w9.heap.size w9 W1)) => (h.out.cell (p := ⟨b9, o9, none⟩) hb9l).trans y0
          have qy1 := fun W1 (h : Hid (Below w9.heap.size w9 W1)) => (h.out.cell (p := ⟨b9, o9 + 1, none⟩) hb9l).trans y1
          have qy2 := fun W1 (h : Hid (Below w9.heap.size w9 W1)) => (h.out.cell (p := ⟨b9, o9 + 2, none⟩) hb9l).trans y2
          have qy3 := fun W1 (h : Hid (Below w9.heap.size w9 W1)) => (h.out.cell (p := ⟨b9, o9 + 3, none⟩) hb9l).trans y3
          have qy4 := fun W1 (h : Hid (Below w9.heap.size w9 W1)) => (h.out.cell (p := ⟨b9, o9 + 4, none⟩) hb9l).trans y4
          have qy5 := fun W1 (h : Hid (Below w9.heap.size w9 W1)) => (h.out.cell (p := ⟨b9, o9 + 5, none⟩) hb9l).trans y5
          have qy6 := fun W1 (h : Hid (Below w9.heap.size w9 W1)) => (h.out.cell (p := ⟨b9, o9 + 6, none⟩) hb9l).trans y6
          have qy7 := fun W1 (h : Hid (Below w9.heap.size w9 W1)) => (h.out.cell (p := ⟨b9, o9 + 7, none⟩) hb9l).trans y7
          clear hb HX8 HQ
          go_wp2_with fail
          refine wp_region_noPanic ?_
          refine wp_region_held_drew (S := fun W1 => Hid (Below w9.heap.size w9 W1)) (by kernel_rfl) hS0 (fun hHeld => ?_)
          clear hS0
          generalize w9.drew = wd at *
          refine wpAnyH_take (i := 0) (oi := { dst := some 153, op := Go.Op.move (Go.Operand.tmp 18), type := 30, pos := "outright.go:255", after := #[], guard := none }) (v := ?_) rfl (by as_aux_lemma => kernel_rfl) (by as_aux_lemma => kernel_rfl) (by as_aux_lemma => kernel_rfl) (fun _ _ _ h => h) (Or.inl ⟨by rfl, ?_⟩) hHeld ?_
          rotate_left
          · (intro w hSw; (try dsimp only at hSw); go_simp; try with_reducible rfl)
          try simp only [Act.put, List.setIfInBounds_toArray, List.set_cons_zero, List.set_cons_succ]
          refine wpAnyH_take (i := 1) (oi := { dst := some 154, op := Go.Op.binOp Go.BinOp.eql 30 (Go.Operand.tmp 153) (Go.Operand.const (Go.Value.int Go.IntKind.i64 0)) 30, type := 4, pos := "outright.go:255", after := #[{ on := 0, ground := Go.Ground.data }], guard := none }) (v := ?_) rfl (by as_aux_lemma => kernel_rfl) (by as_aux_lemma => kernel_rfl) (by as_aux_lemma => kernel_rfl) (fun _ _ _ h => h) (Or.inl ⟨by rfl, ?_⟩) hHeld ?_
          rotate_left
          · (intro w hSw; (try dsimp only at hSw); go_simp; try with_reducible rfl)
          try simp only [Act.put, List.setIfInBounds_toArray, List.set_cons_zero, List.set_cons_succ]
          refine wpAnyH_take (i := 2) (oi := { dst := some 155, op := Go.Op.move (Go.Operand.tmp 154), type := 4, pos := "outright.go:255", after := #[{ on := 1, ground := Go.Ground.data }], guard := none }) (v := ?_) rfl (by as_aux_lemma => kernel_rfl) (by as_aux_lemma => kernel_rfl) (by as_aux_lemma => kernel_rfl) (fun _ _ _ h => h) (Or.inl ⟨by rfl, ?_⟩) hHeld ?_
          rotate_left
          · (intro w hSw; (try dsimp only at hSw); go_simp; try with_reducible rfl)
          try simp only [Act.put, List.setIfInBounds_toArray, List.set_cons_zero, List.set_cons_succ]
          refine wpAnyH_take (i := 3) (oi := { dst := some 156, op := Go.Op.move (Go.Operand.tmp 17), type := 3, pos := "outright.go:255", after := #[{ on := 2, ground := Go.Ground.guard }], guard := some (2, true) }) (v := ?_) rfl (by as_aux_lemma => kernel_rfl) (by as_aux_lemma => kernel_rfl) (by as_aux_lemma => kernel_rfl) (fun _ _ _ h => h) (Or.inl ⟨by rfl, ?_⟩) hHeld ?_
          rotate_left
          · (intro w hSw; (try dsimp only at hSw); go_simp; try with_reducible rfl)
          try simp only [Act.put, List.setIfInBounds_toArray, List.set_cons_zero, List.set_cons_succ]
          refine wpAnyH_take (i := 4) (oi := { dst := some 157, op := Go.Op.move (Go.Operand.tmp 9), type := 22, pos := "outright.go:255", after := #[{ on := 2, ground := Go.Ground.guard }], guard := some (2, true) }) (v := ?_) rfl (by as_aux_lemma => kernel_rfl) (by as_aux_lemma => kernel_rfl) (by as_aux_lemma => kernel_rfl) (fun _ _ _ h => h) (Or.inl ⟨by rfl, ?_⟩) hHeld ?_
          rotate_left
          · (intro w hSw; (try dsimp only at hSw); go_simp; try with_reducible rfl)
          try simp only [Act.put, List.setIfInBounds_toArray, List.set_cons_zero, List.set_cons_succ]
          refine wpAnyH_take (i := 5) (oi := { dst := some 158, op := Go.Op.call { callee := Go.Callee.builtin Go.Builtin.len, args := #[Go.Operand.tmp 157], argTypes := #[22] }, type := 3, pos := "outright.go:255", after := #[{ on := 4, ground := Go.Ground.data }, { on := 2, ground := Go.Ground.guard }], guard := some (2, true) }) (v := ?_) rfl (by as_aux_lemma => kernel_rfl) (by as_aux_lemma => kernel_rfl) (by as_aux_lemma => kernel_rfl) (fun _ _ _ h => h) (Or.inl ⟨by rfl, ?_⟩) hHeld ?_
          rotate_left
          · (intro w hSw; (try dsimp only at hSw); go_simp; try with_reducible rfl)
          try simp only [Act.put, List.setIfInBounds_toArray, List.set_cons_zero, List.set_cons_succ]
          refine wpAnyH_take (i := 6) (oi := { dst := some 159, op := Go.Op.binOp Go.BinOp.add 3 (Go.Operand.tmp 158) (Go.Operand.const (Go.Value.int Go.IntKind.i64 2)) 3, type := 3, pos := "outright.go:255", after := #[{ on := 5, ground := Go.Ground.data }, { on := 2, ground := Go.Ground.guard }], guard := some (2, true) }) (v := ?_) rfl (by as_aux_lemma => kernel_rfl) (by as_aux_lemma => kernel_rfl) (by as_aux_lemma => kernel_rfl) (fun _ _ _ h => h) (Or.inl ⟨by rfl, ?_⟩) hHeld ?_
          rotate_left
          · (intro w hSw; (try dsimp only at hSw); go_simp; try with_reducible rfl)
          try simp only [Act.put, List.setIfInBounds_toArray, List.set_cons_zero, List.set_cons_succ]
          refine wpAnyH_take (i := 7) (oi := { dst := some 160, op := Go.Op.binOp Go.BinOp.eql 3 (Go.Operand.tmp 156) (Go.Operand.tmp 159) 3, type := 4, pos := "outright.go:255", after := #[{ on := 3, ground := Go.Ground.data }, { on := 6, ground := Go.Ground.data }, { on := 2, ground := Go.Ground.guard }], guard := some (2, true) }) (v := ?_) rfl (by as_aux_lemma => kernel_rfl) (by as_aux_lemma => kernel_rfl) (by as_aux_lemma => kernel_rfl) (fun _ _ _ h => h) (Or.inl ⟨by rfl, ?_⟩) hHeld ?_
          rotate_left
          · (intro w hSw; (try dsimp only at hSw); go_simp; try with_reducible rfl)
          try simp only [Act.put, List.setIfInBounds_toArray, List.set_cons_zero, List.set_cons_succ]
          refine wpAnyH_take (i := 8) (oi := { dst := some 161, op := Go.Op.pick (Go.Operand.tmp 155) (Go.Operand.tmp 160) (Go.Operand.const (Go.Value.bool false)), type := 4, pos := "outright.go:255", after := #[{ on := 2, ground := Go.Ground.data }, { on := 7, ground := Go.Ground.data }], guard := none }) (v := ?_) rfl (by as_aux_lemma => kernel_rfl) (by as_aux_lemma => kernel_rfl) (by as_aux_lemma => kernel_rfl) (fun _ _ _ h => h) (Or.inl ⟨by rfl, ?_⟩) hHeld ?_
          rotate_left
          · (intro w hSw; (try dsimp only at hSw); go_simp; try with_reducible rfl)
          try simp only [Act.put, List.setIfInBounds_toArray, List.set_cons_zero, List.set_cons_succ]
          refine wpAnyH_take (i := 9) (oi := { dst := some 162, op := Go.Op.move (Go.Operand.tmp 161), type := 4, pos := "outright.go:255", after := #[{ on := 8, ground := Go.Ground.data }, { on := 2, ground := Go.Ground.chain }], guard := none }) (v := ?_) rfl (by as_aux_lemma => kernel_rfl) (by as_aux_lemma => kernel_rfl) (by as_aux_lemma => kernel_rfl) (fun _ _ _ h => h) (Or.inl ⟨by rfl, ?_⟩) hHeld ?_
          rotate_left
          · (intro w hSw; (try dsimp only at hSw); go_simp; try with_reducible rfl)
          try simp only [Act.put, List.setIfInBounds_toArray, List.set_cons_zero, List.set_cons_succ]
          refine wpAnyH_take (i := 10) (oi := { dst := some 163, op := Go.Op.move (Go.Operand.tmp 16), type := 55, pos := "outright.go:255", after := #[{ on := 9, ground := Go.Ground.guard }], guard := some (9, true) }) (v := ?_) rfl (by as_aux_lemma => kernel_rfl) (by as_aux_lemma => kernel_rfl) (by as_aux_lemma => kernel_rfl) (fun _ _ _ h => h) (Or.inl ⟨by rfl, ?_⟩) hHeld ?_
          rotate_left
          · (intro w hSw; (try dsimp only at hSw); go_simp; try with_reducible rfl)
          try simp only [Act.put, List.setIfInBounds_toArray, List.set_cons_zero, List.set_cons_succ]
          refine wpAnyH_take (i := 11) (oi := { dst := some 164, op := Go.Op.call { callee := Go.Callee.builtin Go.Builtin.len, args := #[Go.Operand.tmp 163], argTypes := #[55] }, type := 3, pos := "outright.go:255", after := #[{ on := 10, ground := Go.Ground.data }, { on := 9, ground := Go.Ground.guard }], guard := some (9, true) }) (v := ?_) rfl (by as_aux_lemma => kernel_rfl) (by as_aux_lemma => kernel_rfl) (by as_aux_lemma => kernel_rfl) (fun _ _ _ h => h) (Or.inl ⟨by rfl, ?_⟩) hHeld ?_
          rotate_left
          · (intro w hSw; (try dsimp only at hSw); go_simp; try with_reducible rfl)
          try simp only [Act.put, List.setIfInBounds_toArray, List.set_cons_zero, List.set_cons_succ]
          refine wpAnyH_take (i := 12) (oi := { dst := some 165, op := Go.Op.binOp Go.BinOp.eql 3 (Go.Operand.tmp 164) (Go.Operand.const (Go.Value.int Go.IntKind.i64 1)) 3, type := 4, pos := "outright.go:255", after := #[{ on := 11, ground := Go.Ground.data }, { on := 9, ground := Go.Ground.guard }], guard := some (9, true) }) (v := ?_) rfl (by as_aux_lemma => kernel_rfl) (by as_aux_lemma => kernel_rfl) (by as_aux_lemma => kernel_rfl) (fun _ _ _ h => h) (Or.inl ⟨by rfl, ?_⟩) hHeld ?_
          rotate_left
          · (intro w hSw; (try dsimp only at hSw); go_simp; try with_reducible rfl)
          try simp only [Act.put, List.setIfInBounds_toArray, List.set_cons_zero, List.set_cons_succ]
          refine wpAnyH_take (i := 13) (oi := { dst := some 166, op := Go.Op.pick (Go.Operand.tmp 162) (Go.Operand.tmp 165) (Go.Operand.const (Go.Value.bool false)), type := 4, pos := "outright.go:255", after := #[{ on := 9, ground := Go.Ground.data }, { on := 12, ground := Go.Ground.data }], guard := none }) (v := ?_) rfl (by as_aux_lemma => kernel_rfl) (by as_aux_lemma => kernel_rfl) (by as_aux_lemma => kernel_rfl) (fun _ _ _ h => h) (Or.inl ⟨by rfl, ?_⟩) hHeld ?_
          rotate_left
          · (intro w hSw; (try dsimp only at hSw); go_simp; try with_reducible rfl)
          try simp only [Act.put, List.setIfInBounds_toArray, List.set_cons_zero, List.set_cons_succ]
          refine wpAnyH_take (i := 14) (oi := { dst := some 167, op := Go.Op.move (Go.Operand.tmp 166), type := 4, pos := "outright.go:255", after := #[{ on := 13, ground := Go.Ground.data }, { on := 9, ground := Go.Ground.chain }], guard := none }) (v := ?_) rfl (by as_aux_lemma => kernel_rfl) (by as_aux_lemma => kernel_rfl) (by as_aux_lemma => kernel_rfl) (fun _ _ _ h => h) (Or.inl ⟨by rfl, ?_⟩) hHeld ?_
          rotate_left
          · (intro w hSw; (try dsimp only at hSw); go_simp; try with_reducible rfl)
          try simp only [Act.put, List.setIfInBounds_toArray, List.set_cons_zero, List.set_cons_succ]
          refine wpAnyH_take (i := 15) (oi := { dst := some 168, op := Go.Op.move (Go.Operand.tmp 16), type := 55, pos := "outright.go:255", after := #[{ on := 14, ground := Go.Ground.guard }], guard := some (14, true) }) (v := ?_) rfl (by as_aux_lemma => kernel_rfl) (by as_aux_lemma => kernel_rfl) (by as_aux_lemma => kernel_rfl) (fun _ _ _ h => h) (Or.inl ⟨by rfl, ?_⟩) hHeld ?_
          rotate_left
          · (intro w hSw; (try dsimp only at hSw); go_simp; try with_reducible rfl)
          try simp only [Act.put, List.setIfInBounds_toArray, List.set_cons_zero, List.set_cons_succ]
          refine wpAnyH_take (i := 16) (oi := { dst := some 169, op := Go.Op.indexAddr 55 (Go.Operand.tmp 168) (Go.Operand.const (Go.Value.int Go.IntKind.i64 0)), type := 0, pos := "outright.go:255", after := #[{ on := 15, ground := Go.Ground.data }, { on := 14, ground := Go.Ground.guard }], guard := some (14, true) }) (v := ?_) rfl (by as_aux_lemma => kernel_rfl) (by as_aux_lemma => kernel_rfl) (by as_aux_lemma => kernel_rfl) (fun _ _ _ h => h) (Or.inl ⟨by rfl, ?_⟩) hHeld ?_
          rotate_left
          · (intro w hSw; (try dsimp only at hSw); go_simp; try with_reducible rfl)
          try simp only [Act.put, List.setIfInBounds_toArray, List.set_cons_zero, List.set_cons_succ]
          refine wpAnyH_take (i := 17) (oi := { dst := some 170, op := Go.Op.load 57 (Go.Operand.tmp 169), type := 57, pos := "outright.go:255", after := #[{ on := 16, ground := Go.Ground.data }, { on := 14, ground := Go.Ground.guard }], guard := some (14, true) }) (v := ?_) rfl (by as_aux_lemma => kernel_rfl) (by as_aux_lemma => kernel_rfl) (by as_aux_lemma => kernel_rfl) (fun _ _ _ h => h) (Or.inl ⟨by rfl, ?_⟩) hHeld ?_
          rotate_left
          · (intro w hSw; (try dsimp only at hSw); go_simp; try with_reducible rfl)
          try simp only [Act.put, List.setIfInBounds_toArray, List.set_cons_zero, List.set_cons_succ]
          refine wpAnyH_take (i := 18) (oi := { dst := some 171, op := Go.Op.load 57 (Go.Operand.tmp 13), type := 57, pos := "outright.go:255", after := #[{ on := 14, ground := Go.Ground.guard }], guard := some (14, true) }) (v := ?_) rfl (by as_aux_lemma => kernel_rfl) (by as_aux_lemma => kernel_rfl) (by as_aux_lemma => kernel_rfl) (fun _ _ _ h => h) (Or.inl ⟨by rfl, ?_⟩) hHeld ?_
          rotate_left
          · (intro w hSw; (try dsimp only at hSw); go_simp; try with_reducible rfl)
          try simp only [Act.put, List.setIfInBounds_toArray, List.set_cons_zero, List.set_cons_succ]
          refine wpAnyH_ready (rs := [19]) (by as_aux_lemma => kernel_rfl) (List.cons_ne_nil _ _) ?_
          refine AllReadyH.cons (o := { dst := some 172, op := Go.Op.call { callee := Go.Callee.value (Go.Operand.func 33), args := #[Go.Operand.tmp 170, Go.Operand.tmp 171], argTypes := #[57, 57] }, type := 4, pos := "outright.go:255", after := #[{ on := 17, ground := Go.Ground.data }, { on := 18, ground := Go.Ground.data }, { on := 14, ground := Go.Ground.chain }, { on := 14, ground := Go.Ground.guard }], guard := some (14, true) }) rfl (fun K hK => ?_) AllReadyH.nil
          go_simp
          refine (HE.out _ hHeld.out).mono ?_
          rintro e wy ⟨rfl, hb⟩
          have hSy := Lib.hid (after hHeld.out hb)
          clear hb
          go_wp2_with fail
          refine hK.out _ _ hSy (fun hHeld2 => ?_)
          clear hK K hHeld
          have hHeld := hHeld2
          clear hHeld2
          try simp only [Act.put, List.setIfInBounds_toArray, List.set_cons_zero, List.set_cons_succ]
          refine wpAnyH_take (i := 20) (oi := { dst := some 173, op := Go.Op.pick (Go.Operand.tmp 167) (Go.Operand.tmp 172) (Go.Operand.const (Go.Value.bool false)), type := 4, pos := "outright.go:255", after := #[{ on := 14, ground := Go.Ground.data }, { on := 19, ground := Go.Ground.data }], guard := none }) (v := ?_) rfl (by as_aux_lemma => kernel_rfl) (by as_aux_lemma => kernel_rfl) (by as_aux_lemma => kernel_rfl) (fun _ _ _ h => h) (Or.inl ⟨by rfl, ?_⟩) hHeld ?_
          rotate_left
          · (intro w hSw; (try dsimp only at hSw); go_simp; try with_reducible rfl)
          try simp only [Act.put, List.setIfInBounds_toArray, List.set_cons_zero, List.set_cons_succ]
          refine wpAnyH_take (i := 21) (oi := { dst := some 174, op := Go.Op.move (Go.Operand.tmp 173), type := 4, pos := "outright.go:255", after := #[{ on := 20, ground := Go.Ground.data }, { on := 19, ground := Go.Ground.chain }], guard := none }) (v := ?_) rfl (by as_aux_lemma => kernel_rfl) (by as_aux_lemma => kernel_rfl) (by as_aux_lemma => kernel_rfl) (fun _ _ _ h => h) (Or.inl ⟨by rfl, ?_⟩) hHeld ?_
          rotate_left
          · (intro w hSw; (try dsimp only at hSw); go_simp; try with_reducible rfl)
          try simp only [Act.put, List.setIfInBounds_toArray, List.set_cons_zero, List.set_cons_succ]
          refine wpAnyH_ready (rs := [22]) (by as_aux_lemma => kernel_rfl) (List.cons_ne_nil _ _) ?_
          refine AllReadyH.cons (o := { dst := some 175, op := Go.Op.call { callee := Go.Callee.value (Go.Operand.func 27), args := #[], argTypes := #[] }, type := 4, pos := "outright.go:255", after := #[{ on := 21, ground := Go.Ground.chain }, { on := 21, ground := Go.Ground.guard }], guard := some (21, true) }) rfl (fun K hK => ?_) AllReadyH.nil
          go_simp
          refine (HWk.out _ (HG.out.up (HU.out.trans ((after HB9.out hSy.out).mono HU.out.size)))).mono ?_
          rintro e wz ⟨rfl, hb⟩
          have hSz := Lib.hid (after hSy.out hb)
          have HZ := Lib.hid (HU.out.trans ((after HB9.out hSz.out).mono HU.out.size))
          clear hb
          go_wp2_with fail
          refine hK.out _ _ hSz (fun hHeld2 => ?_)
          clear hK K hHeld
          have hHeld := hHeld2
          clear hHeld2
          try simp only [Act.put, List.setIfInBounds_toArray, List.set_cons_zero, List.set_cons_succ]
          refine wpAnyH_take (i := 23) (oi := { dst := some 176, op := Go.Op.pick (Go.Operand.tmp 174) (Go.Operand.tmp 175) (Go.Operand.const (Go.Value.bool false)), type := 4, pos := "outright.go:255", after := #[{ on := 21, ground := Go.Ground.data }, { on := 22, ground := Go.Ground.data }], guard := none }) (v := ?_) rfl (by as_aux_lemma => kernel_rfl) (by as_aux_lemma => kernel_rfl) (by as_aux_lemma => kernel_rfl) (fun _ _ _ h => h) (Or.inl ⟨by rfl, ?_⟩) hHeld ?_
          rotate_left
          · (intro w hSw; (try dsimp only at hSw); go_simp; try with_reducible rfl)
          try simp only [Act.put, List.setIfInBounds_toArray, List.set_cons_zero, List.set_cons_succ]
          refine wpAnyH_ready (rs := [24]) (by as_aux_lemma => kernel_rfl) (List.cons_ne_nil _ _) ?_
          refine AllReadyH.cons (o := { dst := some 6, op := Go.Op.assign (Go.Operand.tmp 176), type := 4, pos := "outright.go:255", after := #[{ on := 23, ground := Go.Ground.data }, { on := 22, ground := Go.Ground.chain }, { on := 0, ground := Go.Ground.phase }, { on := 1, ground := Go.Ground.phase }, { on := 2, ground := Go.Ground.phase }, { on := 3, ground := Go.Ground.phase }, { on := 4, ground := Go.Ground.phase }, { on := 5, ground := Go.Ground.phase }, { on := 6, ground := Go.Ground.phase }, { on := 7, ground := Go.Ground.phase }, { on := 8, ground := Go.Ground.phase }, { on := 9, ground := Go.Ground.phase }, { on := 10, ground := Go.Ground.phase }, { on := 11, ground := Go.Ground.phase }, { on := 12, ground := Go.Ground.phase }, { on := 13, ground := Go.Ground.phase }, { on := 14, ground := Go.Ground.phase }, { on := 15, ground := Go.Ground.phase }, { on := 16, ground := Go.Ground.phase }, { on := 17, ground := Go.Ground.phase }, { on := 18, ground := Go.Ground.phase }, { on := 19, ground := Go.Ground.phase }, { on := 20, ground := Go.Ground.phase }, { on := 21, ground := Go.Ground.phase }, { on := 22, ground := Go.Ground.phase }, { on := 23, ground := Go.Ground.phase }], guard := none }) rfl (fun K hK => ?_) AllReadyH.nil
          go_simp
          refine hK.out _ _ hHeld (fun _ => ?_)
          clear hK K
          try simp only [Act.put, List.setIfInBounds_toArray, List.set_cons_zero, List.set_cons_succ]
          refine wpAnyH_done (by kernel_rfl) ?_ _
          refine NoPanic.normal ?_
          go_wp2_with fail
          go_ret
          exact ⟨rfl, HZ.out⟩
end Go.Proofs.YtlhifbckmknijaaGreatDoor.E6
