/-
  The document's own reading of statements: blocks deeper than 20 are alike.
  The document's own reading of statements: block: contract, the statements' contract given.
  The document's own reading of statements: block: contract, the statements' contract given: the loop.
  The document's own reading of statements: branches: the box of the statement.
  The document's own reading of statements: variable: contract. Written by gen6_var.py.
  The document's own reading of statements: branches: contract, case by case. Written by gen6_br.py.
  The document's own reading of statements: branches: contract, case by case. Written by gen6_br.py.
  The document's own reading of statements: stmt and block whole; Parse, Block.
  StmtParses: what all four readings give.
  StmtParses: the tokens kept apart, and the law. Written by gen6_par.py.
-/
import Derived.Test.YtoldhocdfkndbaaGreatDoorTRead
import Derived.Test.YtoldhocdfkndbaaGreatDoorTRefP
import Derived.BigRegion
import Derived.Test.YtoldhocdfkndbaaGreatDoorTRefW
import Derived.Test.YtoldhocdfkndbaaGreatDoorTWorks
import Derived.Test.YtoldhocdfkndbaaGreatDoorTEq
namespace Go.Proofs.YtoldhocdfkndbaaGreatDoor.E6
open Go Go.RowKit Go.Proofs.YtoldhocdfkndbaaGreatDoor Go.Proofs.YtoldhocdfkndbaaGreatDoor.E5

theorem blR_deep (l : TL) (i d d' : Nat) (hi : i ≤ l.length) (h : 20 < d) (h' : 20 < d') : blR l i d = blR l i d' := by
  rw [blR_eq l i d hi, blR_eq l i d' hi]
  split
  · first | rfl | rw [if_pos h, if_pos h']
  · rfl
theorem blR_min (l : TL) (i d : Nat) (hi : i ≤ l.length) : blR l i (d + 1) = blR l i (min d 20 + 1) := by
  rcases Nat.lt_or_ge 20 d with h | h
  · exact blR_deep l i _ _ hi (by omega) (by omega)
  · rw [Nat.min_eq_left h]
theorem blR_depS (l : TL) (i d : Nat) (hi : i ≤ l.length) : blR l i (depS d) = blR l i d := by
  unfold depS
  split
  · exact blR_deep l i _ _ hi (by omega) (by omega)
  · rfl
theorem stR_depS (l : TL) (i d : Nat) (hi : i ≤ l.length) : stR l i (depS d) = stR l i d := by
  unfold depS
  split
  · rw [stR_eq l i 21 hi, stR_eq l i d hi]
    exact oneS_congr hi (fun n _ hn => blR_within l n _ hn) fun n _ hn => blR_deep l n _ _ hn (by omega) (by omega)
  · rfl
end Go.Proofs.YtoldhocdfkndbaaGreatDoor.E6

namespace Go.Proofs.YtoldhocdfkndbaaGreatDoor.E6
open Go Go.RowKit Go.Proofs.YtoldhocdfkndbaaGreatDoor Go.Proofs.YtoldhocdfkndbaaGreatDoor.E5

theorem st_app {base : Nat} {acc : List St} {x : Value} {wr W : World} {s : St} {va vb ve : Value} (h : S3.GrI kS6 base acc x wr) (hb : Below wr.heap.size wr W) (hS : SIs W (Rn wr.heap.size W.heap.size) s va vb ve) (hl : acc.length ≤ 1000000) (ty : TypeId) :
    ∃ g cap w8, (Builtin.append_ #[62, 62] ty #[x, .slice (some ⟨W.heap.size, 0, none⟩) 1 1]).run Tryz.prog (W.alloc (S3.sO s va vb ve)) = .ok (.slice (some ⟨g, 0, none⟩) (acc.length + 1) cap) w8 ∧
      S3.GrI kS6 base (acc ++ [s]) (.slice (some ⟨g, 0, none⟩) (acc.length + 1) cap) w8 ∧ Below base W w8 := by
  obtain ⟨i0, hi0, hz0, hz1, hz2⟩ := info_parts S3.infoS
  have hW := h.bel hb
  obtain ⟨A5, c5, rfl⟩ := hS.a.slice
  obtain ⟨A6, c6, rfl⟩ := hS.b.slice
  obtain ⟨A7, c7, rfl⟩ := hS.e.slice
  have hp := h.part (a := s) (x := (.slice A5 s.args.length c5, .slice A6 s.body.length c6, .slice A7 s.els.length c7)) (w1 := W) hS
  obtain ⟨xs, hown, hst⟩ := hW.own
  have hbase : base ≤ W.heap.size := by obtain ⟨_, _, _, h3⟩ := hW; exact h3
  obtain ⟨v', w', hrun, h2, h3, _, h5⟩ := run_append_own_at (P := Tryz.prog) (W.alloc (S3.sO s (.slice A5 s.args.length c5) (.slice A6 s.body.length c6) (.slice A7 s.els.length c7))) base 62 ty 64 i0 _ 8 128 Tryz.underlying62 hi0 hz0 hz1 hz2 rfl (by decide) x acc.length xs (hown.alloc _) ⟨W.heap.size, 0, none⟩ 1 1 (S3.sC s (.slice A5 s.args.length c5) (.slice A6 s.body.length c6) (.slice A7 s.els.length c7)) rfl
    (fun j u hu => by rw [add_plain, Nat.zero_add]; exact S3.newCell W _ 64 j u (by rw [List.getElem?_toArray]; exact hu)) (by intro u hu; simp [S3.sC] at hu; rcases hu with rfl | rfl | rfl | rfl | rfl | rfl | rfl | rfl <;> rfl) (by unfold maxLen; omega) (by omega) (by rw [S3.sz1]; omega)
  obtain ⟨g, cap, rfl⟩ : ∃ g cap, v' = .slice (some ⟨g, 0, none⟩) (acc.length + 1) cap := by
    rcases h2.2 with ⟨_, h9⟩ | ⟨g, cap, cur, e1, _⟩
    · omega
    · exact ⟨g, cap, e1⟩
  have h6 : x.ownBlock = some g ∨ g = (W.alloc (S3.sO s (.slice A5 s.args.length c5) (.slice A6 s.body.length c6) (.slice A7 s.els.length c7))).heap.size := by
    rcases h5 with h5 | h5
    · exact .inl h5.symm
    · simp only [Value.ownBlock, Option.some.injEq] at h5; exact .inr h5
  obtain ⟨h7, h8⟩ := hst s (.slice A5 s.args.length c5, .slice A6 s.body.length c6, .slice A7 s.els.length c7) _ g cap w' hp h2 h3 h6
  exact ⟨g, cap, w', hrun, h7, h8⟩
/-- What has been read of a block. -/
structure RSI (w : World) (l : TL) (v : Value) (d : Nat) (r : RBl) (acc : List St) (n : Nat) (x : Value) (wr : World) : Prop where
  tok : TokL wr w.heap.size v l
  gr : S3.GrI kS6 w.heap.size acc x wr
  bel : Below w.heap.size w wr
  af : r = lsR l acc n d
  le : n ≤ l.length
  cnt : acc.length ≤ n
theorem RSI.mv {w : World} {l : TL} {v : Value} {d : Nat} {r : RBl} {acc : List St} {n : Nat} {x : Value} {wr wr' : World} (h : RSI w l v d r acc n x wr) (hb : Below wr.heap.size wr wr') : RSI w l v d r acc n x wr' :=
  ⟨h.tok.keep (Nat.le_refl _) (fun b i hx => hb.cell (p := ⟨b, i, none⟩) (Nat.lt_of_lt_of_le hx h.bel.size)), h.gr.bel hb, after h.bel hb, h.af, h.le, h.cnt⟩
theorem RSI.tk {w : World} {l : TL} {v : Value} {d : Nat} {r : RBl} {acc : List St} {n : Nat} {x : Value} {wr : World} (h : RSI w l v d r acc n x wr) : TokL wr wr.heap.size v l := h.tok.keep h.bel.size fun _ _ _ => rfl
theorem end_code {l : TL} {s : St} {i j : Nat} {c : Int} (h : endS l s i = .bad j c) : c ≠ 0 := by
  unfold endS at h; split at h <;> cases h; decide
theorem val_code {l : TL} {mk : Ex → St} {i j : Nat} {c : Int} (h : valS l mk i = .bad j c) : c ≠ 0 := by
  unfold valS at h
  cases hp : parseR l i 0 with
  | bad a k => rw [hp] at h; cases h; rcases parse_code hp with h | h <;> omega
  | ok e n => rw [hp] at h; exact end_code h
theorem arg_code {l : TL} {mk : List Ex → St} {i j : Nat} {c : Int} (h : argS l mk i = .bad j c) : c ≠ 0 := by
  unfold argS at h
  cases hp : listR l i 0 with
  | bad a k => rw [hp] at h; cases h; rcases list_code hp with h | h <;> omega
  | ok e n => rw [hp] at h; exact end_code h
theorem var_code {l : TL} {i j : Nat} {c : Int} (h : varS l i = .bad j c) : c ≠ 0 := by
  unfold varS at h
  split at h
  · split at h
    · cases h; decide
    split at h
    · exact val_code h
    · exact end_code h
  · cases h; decide
theorem nam_code {l : TL} {i j : Nat} {c : Int} (h : namS l i = .bad j c) : c ≠ 0 := by
  unfold namS asgS storS at h
  split at h
  · split at h
    · split at h
      · exact val_code h
      split at h
      · split at h
        · exact arg_code h
        · cases h; decide
      · exact val_code h
    split at h
    · cases hp : parseR l (i + 2) 0 with
      | bad a k => rw [hp] at h; cases h; rcases parse_code hp with h | h <;> omega
      | ok e n =>
        rw [hp] at h
        simp only at h
        split at h
        · split at h
          · exact val_code h
          · cases h; decide
        · cases h; decide
    · exact arg_code h
  · cases h; decide
theorem all_code (l : TL) : ∀ f, (∀ i d j c, stF l f i d = .bad j c → c ≠ 0) ∧ (∀ i d j c, blF l f i d = .bad j c → c ≠ 0) ∧ (∀ acc i d j c, lsF l f acc i d = .bad j c → c ≠ 0) := by
  intro f
  induction f with
  | zero => refine ⟨fun i d j c h => ?_, fun i d j c h => ?_, fun acc i d j c h => ?_⟩ <;> (first | rw [stF] at h | rw [blF] at h | rw [lsF] at h) <;> cases h <;> decide
  | succ f ih =>
    obtain ⟨h1, h2, h3⟩ := ih
    refine ⟨fun i d j c h => ?_, fun i d j c h => ?_, fun acc i d j c h => ?_⟩
    · rw [stF] at h
      unfold oneS readS retS ifS whS at h
      split at h
      · exact var_code h
      split at h
      · split at h
        · exact end_code h
        · cases h; decide
      split at h
      · exact val_code h
      split at h
      · split at h
        · cases h
        · exact val_code h
      split at h
      · cases hp : parseR l (i + 1) 0 with
        | bad a k => rw [hp] at h; cases h; rcases parse_code hp with h | h <;> omega
        | ok e n =>
          rw [hp] at h
          simp only at h
          cases hb : blF l f n (d + 1) with
          | bad a k => rw [hb] at h; cases h; exact h2 _ _ _ _ hb
          | ok b m =>
            rw [hb] at h
            simp only at h
            split at h
            · cases hb2 : blF l f (m + 1) (d + 1) with
              | bad a k => rw [hb2] at h; cases h; exact h2 _ _ _ _ hb2
              | ok b' k => rw [hb2] at h; cases h
            · cases h
      split at h
      · cases hp : parseR l (i + 1) 0 with
        | bad a k => rw [hp] at h; cases h; rcases parse_code hp with h | h <;> omega
        | ok e n =>
          rw [hp] at h
          simp only at h
          cases hb : blF l f n (d + 1) with
          | bad a k => rw [hb] at h; cases h; exact h2 _ _ _ _ hb
          | ok b m => rw [hb] at h; cases h
      · exact nam_code h
    · rw [blF] at h
      split at h
      · split at h
        · cases h; decide
        · exact h3 _ _ _ _ _ h
      · cases h; decide
    · rw [lsF] at h
      split at h
      · cases h
      · cases hs : stF l f i d with
        | bad a k => rw [hs] at h; cases h; exact h1 _ _ _ _ hs
        | ok s n => rw [hs] at h; exact h3 _ _ _ _ _ h
theorem st_code {l : TL} {i d j : Nat} {c : Int} (h : stR l i d = .bad j c) : c ≠ 0 := (all_code l _).1 _ _ _ _ h
theorem bl_code {l : TL} {i d j : Nat} {c : Int} (h : blR l i d = .bad j c) : c ≠ 0 := (all_code l _).2.1 _ _ _ _ h
/-- The statements of a block, given. -/
def RSC (l : TL) (v : Value) (i d : Nat) : Prop := ∀ W, TokL W W.heap.size v l → Calls Tryz.prog 81 #[v, .int .i64 (i : Int), .int .i64 (d : Int)] W (PostPS W (stR l i d))
set_option maxRecDepth 100000 in
set_option maxHeartbeats 2000000 in
theorem block_no {w : World} {l : TL} {v : Value} (hT : TokL w w.heap.size v l) (i : Nat) (d : Int) (h : sgAt l i ≠ [123]) :
    Calls Tryz.prog 84 #[v, .int .i64 (i : Int), .int .i64 d] w (PostPB w (.bad i 7)) := by
  have q1 : (sgAt l i == [123]) = false := beq_eq_false_iff_ne.2 h
  obtain ⟨TA, Tc, rfl⟩ := hT.val
  have HT := Lib.hid hT
  clear hT
  go_enter Tryz.func84, Tryz.ntmps84
  try simp only [List.append_eq, List.cons_append, List.nil_append]
  go_wp2_with fail
  refine (sgn6 HT.out q1 (by simp) rfl).mono ?_
  rintro E w1 ⟨rfl, hb⟩
  have HB1 := Lib.hid hb
  clear hb
  go_wp2_with fail
  go_ret3
  exact ⟨rfl, HB1.out⟩
set_option maxRecDepth 100000 in
set_option maxHeartbeats 2000000 in
theorem block_deep {w : World} {l : TL} {v : Value} (hT : TokL w w.heap.size v l) (i : Nat) (d : Int) (h : sgAt l i = [123]) (hd : 20 < d) :
    Calls Tryz.prog 84 #[v, .int .i64 (i : Int), .int .i64 d] w (PostPB w (.bad i 8)) := by
  have q1 : (sgAt l i == [123]) = true := by rw [h]; rfl
  obtain ⟨TA, Tc, rfl⟩ := hT.val
  have HT := Lib.hid hT
  clear hT
  go_enter Tryz.func84, Tryz.ntmps84
  try simp only [List.append_eq, List.cons_append, List.nil_append]
  go_wp2_with fail
  refine (sgn6 HT.out q1 (by simp) rfl).mono ?_
  rintro E w1 ⟨rfl, hb⟩
  have HB1 := Lib.hid hb
  clear hb
  go_wp2_with fail
  go_ret3
  exact ⟨rfl, HB1.out⟩
end Go.Proofs.YtoldhocdfkndbaaGreatDoor.E6

namespace Go.Proofs.YtoldhocdfkndbaaGreatDoor.E6
open Go Go.RowKit Go.Proofs.YtoldhocdfkndbaaGreatDoor Go.Proofs.YtoldhocdfkndbaaGreatDoor.E5

set_option maxRecDepth 100000 in
set_option maxHeartbeats 8000000 in
theorem block_ok {w : World} {l : TL} {v : Value} (hT : TokL w w.heap.size v l) (hll : l.length ≤ 1000000) (i d : Nat) (h : sgAt l i = [123]) (hd : d ≤ 20) (hS : ∀ n, i < n → n ≤ l.length → RSC l v n d) (r : RBl) (hr : r = lsR l [] (i + 1) d) :
    Calls Tryz.prog 84 #[v, .int .i64 (i : Int), .int .i64 (d : Int)] w (PostPB w r) := by
  have hi := sgAt_lt h (by simp)
  have q1 : (sgAt l i == [123]) = true := by rw [h]; rfl
  have q2 : ¬ (20 : Int) < (d : Int) := by omega
  have hn1 : IntKind.i64.wrap ((i : Int) + 1) = (i : Int) + 1 := IntWalk.i64_in _ (by omega)
  obtain ⟨TA, Tc, rfl⟩ := hT.val
  have HT := Lib.hid hT
  have HS := Lib.hid hS
  have H0 := Lib.hid (show ∀ W, Below w.heap.size w W → RSI w l (.slice TA l.length Tc) d r [] (i + 1) (.slice none 0 0) W from fun W hb => ⟨hT.bel hb, S3.GrI.start kS6 hb.size (fun _ => (.bool false, .bool false, .bool false)), hb, hr, by omega, by simp⟩)
  clear hT hS hr h
  go_enter Tryz.func84, Tryz.ntmps84
  try simp only [List.append_eq, List.cons_append, List.nil_append]
  go_wp2_with fail
  refine (sgn6 HT.out q1 (by simp) rfl).mono ?_
  rintro E w1 ⟨rfl, hb⟩
  have H1 := Lib.hid (H0.out w1 hb)
  clear hb H0
  go_wp2_with fail
  go_loopw [1, 9] (fun nx x wr => ∃ (acc : List St) (n : Nat), nx = .int .i64 (n : Int) ∧ Hid (i < n) ∧ Hid (RSI w l (.slice TA l.length Tc) d r acc n x wr) ∧ ∃ Ax cx, Hid (x = .slice Ax acc.length cx)) (fun nx _ _ => l.length + 1 - (intOf nx).toNat)
  case atStart => exact ⟨[], i + 1, by go_num, Lib.hid (by omega), H1, none, 0, Lib.hid rfl⟩
  case round =>
    clear H1
    obtain ⟨acc, n, rfl, hin, HI, Ax, cx, HX⟩ := hrel
    have hnl := HI.out.le
    have hcn := HI.out.cnt
    have haf := HI.out.af
    rw [lsR_eq l acc n d hnl] at haf
    by_cases hc : sgAt l n = [125]
    · rw [if_pos hc] at haf
      subst haf
      have qc : (sgAt l n == [125]) = true := by rw [hc]; rfl
      have hlt := sgAt_lt hc (by simp)
      have hn2 : IntKind.i64.wrap ((n : Int) + 1) = (n : Int) + 1 := IntWalk.i64_in _ (by omega)
      clear hc HS
      obtain rfl := HX.out
      go_wp2_with fail
      refine (sgn6 HI.out.tk qc (by simp) rfl).mono ?_
      rintro E wb ⟨rfl, hb⟩
      have HGb := Lib.hid (sr_gr (HI.out.gr.bel hb) (by omega))
      have HBb := Lib.hid (after HI.out.bel hb)
      clear hb HI
      go_wp2_with fail
      go_ret3
      exact ⟨Ax, cx, by rw [show ((n + 1 : Nat) : Int) = (n : Int) + 1 by omega]; rfl, HGb.out, HBb.out⟩
    · rw [if_neg hc] at haf
      have qc : (sgAt l n == [125]) = false := beq_eq_false_iff_ne.2 hc
      have C := HS.out n hin.out hnl
      unfold RSC at C
      have hwin := stR_within l n d hnl
      cases hr : stR l n d with
      | bad j c =>
        rw [hr] at haf C
        obtain rfl : r = .bad j c := haf
        have hcd := st_code hr
        have hq' : (c == 0) = false := beq_eq_false_iff_ne.2 hcd
        have HC := Lib.hid C
        clear hr C hwin hc hcd HS
        go_wp2_with fail
        refine (sgn6 HI.out.tk qc (by simp) rfl).mono ?_
        rintro E wb ⟨rfl, hb⟩
        have HIb := Lib.hid (HI.out.mv hb)
        clear hb HI
        go_wp2_with fail
        refine (HC.out wb HIb.out.tk).mono ?_
        rintro E wa ⟨rfl, hb⟩
        have HBa := Lib.hid ((after HIb.out.bel hb).alloc (Nat.le_trans HIb.out.bel.size hb.size) (S3.sO zS (.slice none 0 0) (.slice none 0 0) (.slice none 0 0)))
        clear hb HIb
        go_wp2_with fail
        go_ret3
        exact ⟨rfl, HBa.out⟩
      | ok s n' =>
        rw [hr] at haf C hwin
        simp only [RS.within] at hwin
        have HAF := Lib.hid haf
        have HC := Lib.hid C
        clear hr C hc haf HS
        go_wp2_with fail
        refine (sgn6 HI.out.tk qc (by simp) rfl).mono ?_
        rintro E wb ⟨rfl, hb⟩
        have HIb := Lib.hid (HI.out.mv hb)
        clear hb HI
        go_wp2_with fail
        refine (HC.out wb HIb.out.tk).mono ?_
        rintro E wa ⟨va, vb, ve, rfl, hS, hb⟩
        obtain ⟨Aa, ca, rfl⟩ := hS.a.slice
        obtain ⟨Ab, cb, rfl⟩ := hS.b.slice
        obtain ⟨Ae, ce, rfl⟩ := hS.e.slice
        have b1 := S3.bal wa (S3.sO s (.slice Aa s.args.length ca) (.slice Ab s.body.length cb) (.slice Ae s.els.length ce))
        have hbw := after hb b1
        obtain ⟨g, cap, w8, r8, hG, hB8⟩ := st_app HIb.out.gr hbw (hS.bel b1) (by omega) 62
        have hBw := ((after HIb.out.bel hbw)).trans hB8
        have HN := Lib.hid (show RSI w l (.slice TA l.length Tc) d r (acc ++ [s]) n' (.slice (some ⟨g, 0, none⟩) (acc.length + 1) cap) w8 from ⟨(HIb.out.mv hbw).tok.bel hB8, hG, hBw, HAF.out, by omega, by rw [List.length_append]; simp; omega⟩)
        have e0 := fun (j : Nat) (u : Value) (h : #[Value.int .i64 s.kind, .int .i64 s.no, .string (S3.B s.name), .int .i64 s.typ, .string (S3.B s.callee), .slice Aa s.args.length ca, .slice Ab s.body.length cb, .slice Ae s.els.length ce][j]? = some u) => S3.newCell wa #[Value.int .i64 s.kind, .int .i64 s.no, .string (S3.B s.name), .int .i64 s.typ, .string (S3.B s.callee), .slice Aa s.args.length ca, .slice Ab s.body.length cb, .slice Ae s.els.length ce] 64 j u h
        have k0 := e0 0 _ rfl
        have k1 := e0 1 _ rfl
        have k2 := e0 2 _ rfl
        have k3 := e0 3 _ rfl
        have k4 := e0 4 _ rfl
        have k5 := e0 5 _ rfl
        have k6 := e0 6 _ rfl
        have k7 := e0 7 _ rfl
        rw [S3.sz1] at r8
        have R8' := Lib.hid r8
        clear hb b1 hbw r8 hG hB8 hS hBw HIb e0 HAF HX
        go_wp2_with (at_builtin; refine Lib.wpList_append_run _ rfl _ _ _ _ rfl _ _ rfl rfl _ _ R8'.out ?_)
        go_wp2_with fail
        go_roundw
        case rel => exact ⟨acc ++ [s], n', by go_num, Lib.hid (by have := hin.out; omega), HN, _, _, Lib.hid (by rw [List.length_append]; rfl)⟩
        case measure => simp [intOf]; omega
end Go.Proofs.YtoldhocdfkndbaaGreatDoor.E6

namespace Go.Proofs.YtoldhocdfkndbaaGreatDoor.E6
open Go Go.RowKit Go.Proofs.YtoldhocdfkndbaaGreatDoor Go.Proofs.YtoldhocdfkndbaaGreatDoor.E5

/-- The box of a statement of the kind k, the first new block, and the result's block behind it. -/
structure BX (w W : World) (k : Int) (va vb ve : Value) : Prop where
  row : W.heap[w.heap.size]? = some (.cells #[.int .i64 k, .int .i64 0, .string ⟨#[]⟩, .int .i64 0, .string ⟨#[]⟩, va, vb, ve] 64 (0, 0))
  q : R8 W (w.heap.size + 1)
  bel : Below w.heap.size w W
theorem BX.lt {w W : World} {k : Int} {va vb ve : Value} (h : BX w W k va vb ve) : w.heap.size + 1 < W.heap.size := h.q.lt
theorem BX.start (w : World) (k : Int) : BX w ((w.alloc (.cells #[.int .i64 k, .int .i64 0, .string ⟨#[]⟩, .int .i64 0, .string ⟨#[]⟩, .slice none 0 0, .slice none 0 0, .slice none 0 0] 64)).alloc sZ) k (.slice none 0 0) (.slice none 0 0) (.slice none 0 0) := by
  obtain ⟨h1, h2⟩ := box2 w _ _ _ _ _ _ _ _ (Below.refl _ ((w.alloc (.cells #[.int .i64 k, .int .i64 0, .string ⟨#[]⟩, .int .i64 0, .string ⟨#[]⟩, .slice none 0 0, .slice none 0 0, .slice none 0 0] 64)).alloc sZ))
  exact ⟨h1, h2, after (S3.bal w _) (S3.bal _ _)⟩
theorem BX.mv {w W W' : World} {k : Int} {va vb ve : Value} (h : BX w W k va vb ve) (hb : Below W.heap.size W W') : BX w W' k va vb ve :=
  ⟨(hb.block _ (by have := h.lt; omega)).trans h.row, h.q.bel hb, after h.bel hb⟩
theorem BX.al {w W : World} {k : Int} {va vb ve : Value} (h : BX w W k va vb ve) (o : Obj) : BX w (W.alloc o) k va vb ve := h.mv (S3.bal W o)
theorem BX.set5 {w W : World} {k : Int} {va vb ve : Value} (h : BX w W k va vb ve) (u : Value) : BX w (W.setCell ⟨w.heap.size, 5, none⟩ u) k u vb ve := by
  refine ⟨?_, h.q.set (p := ⟨w.heap.size, 5, none⟩) (by show w.heap.size ≠ _; omega) u, h.bel.setCell (p := ⟨w.heap.size, 5, none⟩) (Nat.le_refl _) u⟩
  have h := h.row
  simp only [World.setCell, Array.getElem?_modify, if_true, h]
  rfl
theorem BX.set6 {w W : World} {k : Int} {va vb ve : Value} (h : BX w W k va vb ve) (u : Value) : BX w (W.setCell ⟨w.heap.size, 6, none⟩ u) k va u ve := by
  refine ⟨?_, h.q.set (p := ⟨w.heap.size, 6, none⟩) (by show w.heap.size ≠ _; omega) u, h.bel.setCell (p := ⟨w.heap.size, 6, none⟩) (Nat.le_refl _) u⟩
  have h := h.row
  simp only [World.setCell, Array.getElem?_modify, if_true, h]
  rfl
theorem BX.set7 {w W : World} {k : Int} {va vb ve : Value} (h : BX w W k va vb ve) (u : Value) : BX w (W.setCell ⟨w.heap.size, 7, none⟩ u) k va vb u := by
  refine ⟨?_, h.q.set (p := ⟨w.heap.size, 7, none⟩) (by show w.heap.size ≠ _; omega) u, h.bel.setCell (p := ⟨w.heap.size, 7, none⟩) (Nat.le_refl _) u⟩
  have h := h.row
  simp only [World.setCell, Array.getElem?_modify, if_true, h]
  rfl
theorem froz6 {w : World} {q : Nat} {a0 a1 a2 a3 a4 a5 a6 a7 : Value} (h : w.heap[q]? = some (.cells #[a0, a1, a2, a3, a4, a5, a6, a7] 64 (0, 0))) : w.frozen? ⟨q, 6, none⟩ = false := by
  unfold World.frozen?; rw [h]; rfl
theorem froz7 {w : World} {q : Nat} {a0 a1 a2 a3 a4 a5 a6 a7 : Value} (h : w.heap[q]? = some (.cells #[a0, a1, a2, a3, a4, a5, a6, a7] 64 (0, 0))) : w.frozen? ⟨q, 7, none⟩ = false := by
  unfold World.frozen?; rw [h]; rfl
/-- Nested parts lie behind the two boxes. -/
abbrev Bk (w W : World) (b : Nat) : Prop := w.heap.size + 1 < b ∧ b < W.heap.size
theorem bk_er {w W W' : World} {l : List Ex} {v : Value} (h : S3.ER W (Bk w W) l v) (hb : Below W.heap.size W W') : S3.ER W' (Bk w W') l v := h.keep (fun _ hx => ⟨hx.1, Nat.lt_of_lt_of_le hx.2 hb.size⟩) fun b i hx => hb.cell (p := ⟨b, i, none⟩) hx.2
theorem bk_sr {w W W' : World} {l : List St} {v : Value} (h : S3.SR W (Bk w W) l v) (hb : Below W.heap.size W W') : S3.SR W' (Bk w W') l v := h.keep (fun _ hx => ⟨hx.1, Nat.lt_of_lt_of_le hx.2 hb.size⟩) fun b i hx => hb.cell (p := ⟨b, i, none⟩) hx.2
theorem bk_cell {w W : World} {o : Nat} {u : Value} {b i : Nat} (h : Bk w W b) : (W.setCell ⟨w.heap.size, o, none⟩ u).cell? ⟨b, i, none⟩ = W.cell? ⟨b, i, none⟩ := World.cell?_of_block (w := W) (Below.heap_setCell _ _ _ b (by have := h.1; show b ≠ w.heap.size; omega))
theorem bk_lt {w W : World} {o : Nat} {u : Value} {b : Nat} (h : Bk w W b) : Bk w (W.setCell ⟨w.heap.size, o, none⟩ u) b := ⟨h.1, by have := h.2; simpa [World.setCell] using this⟩
theorem bk_erS {w W : World} {o : Nat} {u : Value} {l : List Ex} {v : Value} (h : S3.ER W (Bk w W) l v) : S3.ER (W.setCell ⟨w.heap.size, o, none⟩ u) (Bk w (W.setCell ⟨w.heap.size, o, none⟩ u)) l v := h.keep (fun _ hx => bk_lt hx) fun _ _ hx => bk_cell hx
theorem bk_srS {w W : World} {o : Nat} {u : Value} {l : List St} {v : Value} (h : S3.SR W (Bk w W) l v) : S3.SR (W.setCell ⟨w.heap.size, o, none⟩ u) (Bk w (W.setCell ⟨w.heap.size, o, none⟩ u)) l v := h.keep (fun _ hx => bk_lt hx) fun _ _ hx => bk_cell hx
/-- The end: the statement is laid into the result's block. -/
theorem bx_fin {w W : World} {k : Int} {s : St} {va vb ve : Value} (h : BX w W k va vb ve) (hS : SIs W (Bk w W) s va vb ve) (a0 a1 a2 a3 a4 a5 a6 a7 : Value) :
    SIs (put8 W (w.heap.size + 1) a0 a1 a2 a3 a4 a5 a6 a7) (Rn w.heap.size (put8 W (w.heap.size + 1) a0 a1 a2 a3 a4 a5 a6 a7).heap.size) s va vb ve ∧ Below w.heap.size w (put8 W (w.heap.size + 1) a0 a1 a2 a3 a4 a5 a6 a7) :=
  ⟨put8_isO hS (fun h => by have := h.1; omega) (fun b h => ⟨by have := h.1; omega, by rw [put8_size]; exact h.2⟩) a0 a1 a2 a3 a4 a5 a6 a7, put8_below h.bel (q := w.heap.size + 1) (by omega) a0 a1 a2 a3 a4 a5 a6 a7⟩
/-- The one argument is laid. -/
theorem bx_args {w w1 : World} {k : Int} {va vb ve : Value} (hX : BX w w1 k va vb ve) {e : Ex} {A : Option Addr} {kk c : Nat} (ho : S3.OkE e) (hE : S3.ER w1 (Rn (w.heap.size + 1 + 1) w1.heap.size) e.args (.slice A kk c)) :
    BX w (((w1.setCell ⟨w.heap.size, 5, none⟩ (.slice (some ⟨w1.heap.size + 1, 0, none⟩) 1 1)).alloc (S3.eO e (.slice A kk c))).alloc (S3.eO e (.slice A kk c))) k (.slice (some ⟨w1.heap.size + 1, 0, none⟩) 1 1) vb ve ∧
      S3.ER (((w1.setCell ⟨w.heap.size, 5, none⟩ (.slice (some ⟨w1.heap.size + 1, 0, none⟩) 1 1)).alloc (S3.eO e (.slice A kk c))).alloc (S3.eO e (.slice A kk c))) (Bk w (((w1.setCell ⟨w.heap.size, 5, none⟩ (.slice (some ⟨w1.heap.size + 1, 0, none⟩) 1 1)).alloc (S3.eO e (.slice A kk c))).alloc (S3.eO e (.slice A kk c)))) [e] (.slice (some ⟨w1.heap.size + 1, 0, none⟩) 1 1) := by
  have hl := hX.lt
  have h5 := hX.set5 (.slice (some ⟨w1.heap.size + 1, 0, none⟩) 1 1)
  refine ⟨(h5.al _).al _, ?_⟩
  have hE5 := bk_er (bk_er (bk_erS (o := 5) (u := .slice (some ⟨w1.heap.size + 1, 0, none⟩) 1 1) (hE.keep (R' := Bk w w1) (fun b h => ⟨by have := h.1; omega, h.2⟩) fun _ _ _ => rfl)) (S3.bal _ (S3.eO e (.slice A kk c)))) (S3.bal _ (S3.eO e (.slice A kk c)))
  have hz : ((w1.setCell ⟨w.heap.size, 5, none⟩ (.slice (some ⟨w1.heap.size + 1, 0, none⟩) 1 1)).alloc (S3.eO e (.slice A kk c))).heap.size = w1.heap.size + 1 := by rw [S3.sz1]; simp [World.setCell]
  have hnew := heap_alloc_new ((w1.setCell ⟨w.heap.size, 5, none⟩ (.slice (some ⟨w1.heap.size + 1, 0, none⟩) 1 1)).alloc (S3.eO e (.slice A kk c))) (S3.eO e (.slice A kk c))
  have hz2 := S3.sz1 ((w1.setCell ⟨w.heap.size, 5, none⟩ (.slice (some ⟨w1.heap.size + 1, 0, none⟩) 1 1)).alloc (S3.eO e (.slice A kk c))) (S3.eO e (.slice A kk c))
  rw [hz] at hnew hz2
  generalize ((w1.setCell ⟨w.heap.size, 5, none⟩ (.slice (some ⟨w1.heap.size + 1, 0, none⟩) 1 1)).alloc (S3.eO e (.slice A kk c))).alloc (S3.eO e (.slice A kk c)) = W at *
  refine S3.ER.mk [e] (some ⟨w1.heap.size + 1, 0, none⟩) 1 (fun _ => .slice A kk c) (by simp) (fun j y hy => ?_) (fun j y hy => ?_)
  · rcases j with _ | j
    · simp at hy; subst hy
      exact ⟨w1.heap.size + 1, 0, rfl, ⟨by omega, by omega⟩, ho, (cell_of_row _ _ 0 _ _ _ hnew).trans rfl, (cell_of_row _ _ 1 _ _ _ hnew).trans rfl, (cell_of_row _ _ 2 _ _ _ hnew).trans rfl, (cell_of_row _ _ 3 _ _ _ hnew).trans rfl, (cell_of_row _ _ 4 _ _ _ hnew).trans rfl⟩
    · simp at hy
  · rcases j with _ | j
    · simp at hy; subst hy; exact hE5
    · simp at hy
theorem bk_sr0 {w W1 w2 : World} {k : Int} {va vb ve : Value} (hX : BX w W1 k va vb ve) {l : List St} {v : Value} (h : S3.SR w2 (Rn W1.heap.size w2.heap.size) l v) : S3.SR w2 (Bk w w2) l v := h.keep (fun b h => ⟨by have := h.1; have := hX.lt; omega, h.2⟩) fun _ _ _ => rfl
/-- The blocks of statements, given, for an if or a while in a block of the depth d. -/
def RBC (l : TL) (v : Value) (i d : Nat) : Prop := ∀ W, TokL W W.heap.size v l → Calls Tryz.prog 84 #[v, .int .i64 (i : Int), .int .i64 ((min d 20 + 1 : Nat) : Int)] W (PostPB W (blR l i (d + 1)))
end Go.Proofs.YtoldhocdfkndbaaGreatDoor.E6

namespace Go.Proofs.YtoldhocdfkndbaaGreatDoor.E6
open Go Go.RowKit Go.Proofs.YtoldhocdfkndbaaGreatDoor Go.Proofs.YtoldhocdfkndbaaGreatDoor.E5

set_option maxRecDepth 100000 in
theorem reftypW_0 (s : Bytes) (q0 : (s == [105, 110, 116]) = true) (w : World) :
    Calls Tryz.prog 45 #[.string (B s)] w fun e w' => e = .returned (.int .i64 1) ∧ w' = w := by
  go_enter Tryz.func45, Tryz.ntmps45
  go_wp2_with fail
  go_ret
  exact ⟨rfl, rfl⟩
set_option maxRecDepth 100000 in
theorem reftypW_1 (s : Bytes) (q0 : (s == [105, 110, 116]) = false) (q1 : (s == [98, 111, 111, 108]) = true) (w : World) :
    Calls Tryz.prog 45 #[.string (B s)] w fun e w' => e = .returned (.int .i64 2) ∧ w' = w := by
  go_enter Tryz.func45, Tryz.ntmps45
  go_wp2_with fail
  go_ret
  exact ⟨rfl, rfl⟩
set_option maxRecDepth 100000 in
theorem reftypW_2 (s : Bytes) (q0 : (s == [105, 110, 116]) = false) (q1 : (s == [98, 111, 111, 108]) = false) (q2 : (s == [97, 114, 114, 97, 121]) = true) (w : World) :
    Calls Tryz.prog 45 #[.string (B s)] w fun e w' => e = .returned (.int .i64 3) ∧ w' = w := by
  go_enter Tryz.func45, Tryz.ntmps45
  go_wp2_with fail
  go_ret
  exact ⟨rfl, rfl⟩
set_option maxRecDepth 100000 in
theorem reftypW_3 (s : Bytes) (q0 : (s == [105, 110, 116]) = false) (q1 : (s == [98, 111, 111, 108]) = false) (q2 : (s == [97, 114, 114, 97, 121]) = false) (w : World) :
    Calls Tryz.prog 45 #[.string (B s)] w fun e w' => e = .returned (.int .i64 0) ∧ w' = w := by
  go_enter Tryz.func45, Tryz.ntmps45
  go_wp2_with fail
  go_ret
  exact ⟨rfl, rfl⟩
theorem reftypW (s : Bytes) (w : World) :
    Calls Tryz.prog 45 #[.string (B s)] w fun e w' => e = .returned (.int .i64 (typW s)) ∧ w' = w := by
  have ne : ∀ {p q : Bytes}, p ≠ q → (p == q) = false := fun h => beq_eq_false_iff_ne.2 h
  by_cases h1 : s = wInt
  · subst h1; exact reftypW_0 wInt (by decide) w
  by_cases h2 : s = wBool
  · subst h2; exact reftypW_1 wBool (by decide) (by decide) w
  by_cases h3 : s = wArray
  · subst h3; exact reftypW_2 wArray (by decide) (by decide) (by decide) w
  · have e : typW s = 0 := by unfold typW; rw [if_neg h1, if_neg h2, if_neg h3]
    rw [e]
    exact reftypW_3 s (ne h1) (ne h2) (ne h3) w
set_option maxRecDepth 100000 in
set_option maxHeartbeats 8000000 in
theorem var_noname {w : World} {l : TL} {v : Value} (hT : TokL w w.heap.size v l) (hll : l.length ≤ 1000000) (i : Nat) (hi : i ≤ l.length) (hn : nmTok (tkAt l (i + 1)) = false) :
    Calls Tryz.prog 111 #[v, .int .i64 (i : Int)] w (PostPS w (.bad (i + 1) 7)) := by
  obtain ⟨TA, Tc, rfl⟩ := hT.val
  have HT := Lib.hid hT
  have hn1 : IntKind.i64.wrap ((i : Int) + 1) = (i : Int) + 1 := IntWalk.i64_in _ (by omega)
  have hn2 : IntKind.i64.wrap ((i : Int) + 2) = (i : Int) + 2 := IntWalk.i64_in _ (by omega)
  have hn3 : IntKind.i64.wrap ((i : Int) + 3) = (i : Int) + 3 := IntWalk.i64_in _ (by omega)
  have hn4 : IntKind.i64.wrap ((i : Int) + 4) = (i : Int) + 4 := IntWalk.i64_in _ (by omega)
  clear hT 
  go_enter Tryz.func111, Tryz.ntmps111
  try simp only [List.append_eq, List.cons_append, List.nil_append]
  go_wp2_with fail
  refine (nam6 (tokU HT.out (S3.bal w _)) hn (by omega)).mono ?_
  rintro E w1 ⟨rfl, hb⟩
  have HB1 := Lib.hid hb
  clear hb
  go_wp2_with fail
  refine (wrong6 _ _).mono ?_
  rintro E wz ⟨rfl, hb⟩
  obtain ⟨hQ, hbw⟩ := box1 w (after HB1.out hb)
  have hq1 := hQ.lt
  obtain ⟨z0, z1, z2, z3, z4, z5, z6, z7, r0, r1, r2, r3, r4, r5, r6, r7, y0, y1, y2, y3, y4, y5, y6, y7⟩ := hQ.facts
  have HB := Lib.hid (put8_below hbw (q := w.heap.size) (Nat.le_refl _) (.int .i64 0) (.int .i64 0) (.string ⟨#[]⟩) (.int .i64 0) (.string ⟨#[]⟩) (.slice none 0 0) (.slice none 0 0) (.slice none 0 0))
  clear hb hQ hbw HB1 HT
  go_wp2_with fail
  exact bodyPost_ret (v := .tuple #[S3.sV zS (.slice none 0 0) (.slice none 0 0) (.slice none 0 0), .int .i64 (((i + 1 : Nat) : Int) : Int), .int .i64 7]) (by simp [results, Tryz.results111, go_sem, zS, r0, r1, r2, r3, r4, r5, r6, r7]) rfl ⟨rfl, HB.out⟩
set_option maxRecDepth 100000 in
set_option maxHeartbeats 8000000 in
theorem var_end {w : World} {l : TL} {v : Value} (hT : TokL w w.heap.size v l) (hll : l.length ≤ 1000000) (i : Nat) (hn : nmTok (tkAt l (i + 1)) = true) (h2 : l.length ≤ i + 2) :
    Calls Tryz.prog 111 #[v, .int .i64 (i : Int)] w (PostPS w (.bad (i + 2) 7)) := by
  have hi1 := nm_lt hn
  have qg : (l.length : Int) ≤ (i : Int) + 2 := by omega
  obtain ⟨TA, Tc, rfl⟩ := hT.val
  have HT := Lib.hid hT
  have hn1 : IntKind.i64.wrap ((i : Int) + 1) = (i : Int) + 1 := IntWalk.i64_in _ (by omega)
  have hn2 : IntKind.i64.wrap ((i : Int) + 2) = (i : Int) + 2 := IntWalk.i64_in _ (by omega)
  have hn3 : IntKind.i64.wrap ((i : Int) + 3) = (i : Int) + 3 := IntWalk.i64_in _ (by omega)
  have hn4 : IntKind.i64.wrap ((i : Int) + 4) = (i : Int) + 4 := IntWalk.i64_in _ (by omega)
  clear hT 
  go_enter Tryz.func111, Tryz.ntmps111
  try simp only [List.append_eq, List.cons_append, List.nil_append]
  go_wp2_with fail
  refine (nam6 (tokU HT.out (S3.bal w _)) hn (by omega)).mono ?_
  rintro E w1 ⟨rfl, hb⟩
  have HB1 := Lib.hid hb
  clear hb
  go_wp2_with fail
  refine (wrong6 _ _).mono ?_
  rintro E wz ⟨rfl, hb⟩
  obtain ⟨hQ, hbw⟩ := box1 w (after HB1.out hb)
  have hq1 := hQ.lt
  obtain ⟨z0, z1, z2, z3, z4, z5, z6, z7, r0, r1, r2, r3, r4, r5, r6, r7, y0, y1, y2, y3, y4, y5, y6, y7⟩ := hQ.facts
  have HB := Lib.hid (put8_below hbw (q := w.heap.size) (Nat.le_refl _) (.int .i64 0) (.int .i64 0) (.string ⟨#[]⟩) (.int .i64 0) (.string ⟨#[]⟩) (.slice none 0 0) (.slice none 0 0) (.slice none 0 0))
  clear hb hQ hbw HB1 HT
  go_wp2_with fail
  exact bodyPost_ret (v := .tuple #[S3.sV zS (.slice none 0 0) (.slice none 0 0) (.slice none 0 0), .int .i64 (((i + 2 : Nat) : Int) : Int), .int .i64 7]) (by simp [results, Tryz.results111, go_sem, zS, r0, r1, r2, r3, r4, r5, r6, r7]) rfl ⟨rfl, HB.out⟩
set_option maxRecDepth 100000 in
set_option maxHeartbeats 8000000 in
theorem var_kind {w : World} {l : TL} {v : Value} (hT : TokL w w.heap.size v l) (hll : l.length ≤ 1000000) (i : Nat) (hn : nmTok (tkAt l (i + 1)) = true) (h2 : i + 2 < l.length) (h3 : (tkAt l (i + 2)).1 ≠ 3) :
    Calls Tryz.prog 111 #[v, .int .i64 (i : Int)] w (PostPS w (.bad (i + 2) 7)) := by
  have hi1 := nm_lt hn
  have qg : ¬ (l.length : Int) ≤ (i : Int) + 2 := by omega
  have ql : (i : Int) + 2 < (l.length : Int) := by omega
  have ql1 : (i : Int) + 1 < (l.length : Int) := by omega
  have q0 : (0 : Int) ≤ (i : Int) + 2 := by omega
  have q01 : (0 : Int) ≤ (i : Int) + 1 := by omega
  have q3 : ((tkAt l (i + 2)).1 == 3) = false := beq_eq_false_iff_ne.2 h3
  obtain ⟨TA, Tc, rfl⟩ := hT.val
  have HT := Lib.hid hT
  have hn1 : IntKind.i64.wrap ((i : Int) + 1) = (i : Int) + 1 := IntWalk.i64_in _ (by omega)
  have hn2 : IntKind.i64.wrap ((i : Int) + 2) = (i : Int) + 2 := IntWalk.i64_in _ (by omega)
  have hn3 : IntKind.i64.wrap ((i : Int) + 3) = (i : Int) + 3 := IntWalk.i64_in _ (by omega)
  have hn4 : IntKind.i64.wrap ((i : Int) + 4) = (i : Int) + 4 := IntWalk.i64_in _ (by omega)
  clear hT 
  go_enter Tryz.func111, Tryz.ntmps111
  try simp only [List.append_eq, List.cons_append, List.nil_append]
  go_wp2_with fail
  refine (nam6 (tokU HT.out (S3.bal w _)) hn (by omega)).mono ?_
  rintro E w1 ⟨rfl, hb⟩
  have HB1 := Lib.hid hb
  clear hb
  obtain ⟨_, xtl, xb, xo, xa, rfl, xlt, x0, x1, x2⟩ := (tokU HT.out (after (S3.bal w _) HB1.out)).at3 (i + 2) (by omega)
  go_wp2_with fail
  refine (wrong6 _ _).mono ?_
  rintro E wz ⟨rfl, hb⟩
  obtain ⟨hQ, hbw⟩ := box1 w (after HB1.out hb)
  have hq1 := hQ.lt
  obtain ⟨z0, z1, z2, z3, z4, z5, z6, z7, r0, r1, r2, r3, r4, r5, r6, r7, y0, y1, y2, y3, y4, y5, y6, y7⟩ := hQ.facts
  have HB := Lib.hid (put8_below hbw (q := w.heap.size) (Nat.le_refl _) (.int .i64 0) (.int .i64 0) (.string ⟨#[]⟩) (.int .i64 0) (.string ⟨#[]⟩) (.slice none 0 0) (.slice none 0 0) (.slice none 0 0))
  clear hb hQ hbw HB1 HT
  go_wp2_with fail
  exact bodyPost_ret (v := .tuple #[S3.sV zS (.slice none 0 0) (.slice none 0 0) (.slice none 0 0), .int .i64 (((i + 2 : Nat) : Int) : Int), .int .i64 7]) (by simp [results, Tryz.results111, go_sem, zS, r0, r1, r2, r3, r4, r5, r6, r7]) rfl ⟨rfl, HB.out⟩
set_option maxRecDepth 100000 in
set_option maxHeartbeats 8000000 in
theorem var_word {w : World} {l : TL} {v : Value} (hT : TokL w w.heap.size v l) (hll : l.length ≤ 1000000) (i : Nat) (hn : nmTok (tkAt l (i + 1)) = true) (h2 : i + 2 < l.length) (h3 : (tkAt l (i + 2)).1 = 3) (h4 : typW (tkAt l (i + 2)).2 = 0) :
    Calls Tryz.prog 111 #[v, .int .i64 (i : Int)] w (PostPS w (.bad (i + 2) 7)) := by
  have hi1 := nm_lt hn
  have qg : ¬ (l.length : Int) ≤ (i : Int) + 2 := by omega
  have ql : (i : Int) + 2 < (l.length : Int) := by omega
  have ql1 : (i : Int) + 1 < (l.length : Int) := by omega
  have q0 : (0 : Int) ≤ (i : Int) + 2 := by omega
  have q01 : (0 : Int) ≤ (i : Int) + 1 := by omega
  have q3 : ((tkAt l (i + 2)).1 == 3) = true := by rw [h3]; rfl
  have q4 : (typW (tkAt l (i + 2)).2 == 0) = true := by rw [h4]; rfl
  obtain ⟨TA, Tc, rfl⟩ := hT.val
  have HT := Lib.hid hT
  have hn1 : IntKind.i64.wrap ((i : Int) + 1) = (i : Int) + 1 := IntWalk.i64_in _ (by omega)
  have hn2 : IntKind.i64.wrap ((i : Int) + 2) = (i : Int) + 2 := IntWalk.i64_in _ (by omega)
  have hn3 : IntKind.i64.wrap ((i : Int) + 3) = (i : Int) + 3 := IntWalk.i64_in _ (by omega)
  have hn4 : IntKind.i64.wrap ((i : Int) + 4) = (i : Int) + 4 := IntWalk.i64_in _ (by omega)
  clear hT 
  go_enter Tryz.func111, Tryz.ntmps111
  try simp only [List.append_eq, List.cons_append, List.nil_append]
  go_wp2_with fail
  refine (nam6 (tokU HT.out (S3.bal w _)) hn (by omega)).mono ?_
  rintro E w1 ⟨rfl, hb⟩
  have HB1 := Lib.hid hb
  clear hb
  obtain ⟨_, xtl, xb, xo, xa, rfl, xlt, x0, x1, x2⟩ := (tokU HT.out (after (S3.bal w _) HB1.out)).at3 (i + 2) (by omega)
  go_wp2_with fail
  refine (reftypW _ _).mono ?_
  rintro E w2 ⟨rfl, rfl⟩
  go_wp2_with fail
  refine (wrong6 _ _).mono ?_
  rintro E wz ⟨rfl, hb⟩
  obtain ⟨hQ, hbw⟩ := box1 w (after HB1.out hb)
  have hq1 := hQ.lt
  obtain ⟨z0, z1, z2, z3, z4, z5, z6, z7, r0, r1, r2, r3, r4, r5, r6, r7, y0, y1, y2, y3, y4, y5, y6, y7⟩ := hQ.facts
  have HB := Lib.hid (put8_below hbw (q := w.heap.size) (Nat.le_refl _) (.int .i64 0) (.int .i64 0) (.string ⟨#[]⟩) (.int .i64 0) (.string ⟨#[]⟩) (.slice none 0 0) (.slice none 0 0) (.slice none 0 0))
  clear hb hQ hbw HB1 HT
  go_wp2_with fail
  exact bodyPost_ret (v := .tuple #[S3.sV zS (.slice none 0 0) (.slice none 0 0) (.slice none 0 0), .int .i64 (((i + 2 : Nat) : Int) : Int), .int .i64 7]) (by simp [results, Tryz.results111, go_sem, zS, r0, r1, r2, r3, r4, r5, r6, r7]) rfl ⟨rfl, HB.out⟩
theorem typ_okI (s : Bytes) : S3.okI (typW s) := by
  unfold typW S3.okI
  split
  · omega
  split
  · omega
  split <;> omega
set_option maxRecDepth 100000 in
set_option maxHeartbeats 8000000 in
theorem var_val {w : World} {l : TL} {v : Value} (hT : TokL w w.heap.size v l) (hll : l.length ≤ 1000000) (i : Nat) (hn : nmTok (tkAt l (i + 1)) = true) (h2 : i + 2 < l.length) (h3 : (tkAt l (i + 2)).1 = 3) (h4 : typW (tkAt l (i + 2)).2 ≠ 0) (h5 : sgAt l (i + 3) = [61]) :
    Calls Tryz.prog 111 #[v, .int .i64 (i : Int)] w (PostPS w (valS l (fun e => sVar (tkAt l (i + 1)).2 (typW (tkAt l (i + 2)).2) [e]) (i + 4))) := by
  have hi1 := nm_lt hn
  have qg : ¬ (l.length : Int) ≤ (i : Int) + 2 := by omega
  have ql : (i : Int) + 2 < (l.length : Int) := by omega
  have ql1 : (i : Int) + 1 < (l.length : Int) := by omega
  have q0 : (0 : Int) ≤ (i : Int) + 2 := by omega
  have q01 : (0 : Int) ≤ (i : Int) + 1 := by omega
  have q3 : ((tkAt l (i + 2)).1 == 3) = true := by rw [h3]; rfl
  have q4 : (typW (tkAt l (i + 2)).2 == 0) = false := beq_eq_false_iff_ne.2 h4
  have hi3 := sgAt_lt h5 (by simp)
  have qs : (sgAt l (i + 3) == [61]) = true := by rw [h5]; rfl
  obtain ⟨TA, Tc, rfl⟩ := hT.val
  have HT := Lib.hid hT
  have hn1 : IntKind.i64.wrap ((i : Int) + 1) = (i : Int) + 1 := IntWalk.i64_in _ (by omega)
  have hn2 : IntKind.i64.wrap ((i : Int) + 2) = (i : Int) + 2 := IntWalk.i64_in _ (by omega)
  have hn3 : IntKind.i64.wrap ((i : Int) + 3) = (i : Int) + 3 := IntWalk.i64_in _ (by omega)
  have hn4 : IntKind.i64.wrap ((i : Int) + 4) = (i : Int) + 4 := IntWalk.i64_in _ (by omega)
  generalize hx : (tkAt l (i + 1)).2 = x at *
  generalize hz : (tkAt l (i + 2)).2 = z at *
  clear hT 
  go_enter Tryz.func111, Tryz.ntmps111
  try simp only [List.append_eq, List.cons_append, List.nil_append]
  go_wp2_with fail
  refine (nam6 (tokU HT.out (S3.bal w _)) hn (by omega)).mono ?_
  rintro E w1 ⟨rfl, hb⟩
  have HB1 := Lib.hid hb
  clear hb
  obtain ⟨_, xtl, xb, xo, xa, heX, xlt, x0, x1, x2⟩ := (tokU HT.out (after (S3.bal w _) HB1.out)).at3 (i + 2) (by omega)
  obtain ⟨_, ytl, yb, yo, ya, heA, ylt, y0, y1, y2⟩ := (tokU HT.out (after (S3.bal w _) HB1.out)).at3 (i + 1) (by omega)
  rw [heX] at heA
  injection heA with heA
  injection heA with e1 e2
  subst e1 e2 heX
  rw [hz] at xtl x1
  rw [hx] at ytl y1
  have hR := Lib.hid (fun W => reftypW z W)
  have hbw1 := after (S3.bal w _) HB1.out
  have hlt1 : xb < w1.heap.size := xlt
  go_wp2_with fail
  refine (hR.out _).mono ?_
  rintro E w2 ⟨rfl, rfl⟩
  go_wp2_with fail
  have qn1 : ((i : Int) + 1).toNat = i + 1 := by omega
  have qn2 : ((i : Int) + 2).toNat = i + 2 := by omega
  have qx := fun W1 (h : Hid (Below w2.heap.size w2 W1)) => (h.out.cell (p := ⟨xb, xo + (i + 1) * 3 + 1, none⟩) hlt1).trans y1
  have qz := fun W1 (h : Hid (Below w2.heap.size w2 W1)) => (h.out.cell (p := ⟨xb, xo + (i + 2) * 3 + 1, none⟩) hlt1).trans x1
  have hS0 := Lib.hid (bal_dr2 w2)
  refine wp_region_noPanic ?_
  refine wp_region_held_drew (S := fun W1 => Hid (Below w2.heap.size w2 W1)) (by kernel_rfl) hS0 (fun hHeld => ?_)
  clear hS0
  generalize w2.drew = wd at *
  have hdz := hHeld.out.size
  refine wpAnyH_take (i := 0) (oi := { dst := some 49, op := Go.Op.move (Go.Operand.tmp 0), type := 68, pos := "ref.go:91", after := #[], guard := none }) (v := ?_) rfl (by as_aux_lemma => kernel_rfl) (by as_aux_lemma => kernel_rfl) (by as_aux_lemma => kernel_rfl) (fun _ _ _ h => h) (Or.inl ⟨by rfl, ?_⟩) hHeld ?_
  rotate_left
  · (intro w hSw; (try dsimp only at hSw); go_simp; try with_reducible rfl)
  try simp only [Act.put, List.setIfInBounds_toArray, List.set_cons_zero, List.set_cons_succ]
  refine wpAnyH_take (i := 1) (oi := { dst := some 50, op := Go.Op.move (Go.Operand.tmp 1), type := 3, pos := "ref.go:91", after := #[], guard := none }) (v := ?_) rfl (by as_aux_lemma => kernel_rfl) (by as_aux_lemma => kernel_rfl) (by as_aux_lemma => kernel_rfl) (fun _ _ _ h => h) (Or.inl ⟨by rfl, ?_⟩) hHeld ?_
  rotate_left
  · (intro w hSw; (try dsimp only at hSw); go_simp; try with_reducible rfl)
  try simp only [Act.put, List.setIfInBounds_toArray, List.set_cons_zero, List.set_cons_succ]
  refine wpAnyH_take (i := 2) (oi := { dst := some 51, op := Go.Op.binOp Go.BinOp.add 3 (Go.Operand.tmp 50) (Go.Operand.const (Go.Value.int Go.IntKind.i64 1)) 3, type := 3, pos := "ref.go:91", after := #[{ on := 1, ground := Go.Ground.data }], guard := none }) (v := ?_) rfl (by as_aux_lemma => kernel_rfl) (by as_aux_lemma => kernel_rfl) (by as_aux_lemma => kernel_rfl) (fun _ _ _ h => h) (Or.inl ⟨by rfl, ?_⟩) hHeld ?_
  rotate_left
  · (intro w hSw; (try dsimp only at hSw); go_simp; try with_reducible rfl)
  try simp only [Act.put, List.setIfInBounds_toArray, List.set_cons_zero, List.set_cons_succ]
  refine wpAnyH_take (i := 3) (oi := { dst := some 52, op := Go.Op.indexAddr 68 (Go.Operand.tmp 49) (Go.Operand.tmp 51), type := 0, pos := "ref.go:91", after := #[{ on := 0, ground := Go.Ground.data }, { on := 2, ground := Go.Ground.data }], guard := none }) (v := ?_) rfl (by as_aux_lemma => kernel_rfl) (by as_aux_lemma => kernel_rfl) (by as_aux_lemma => kernel_rfl) (fun _ _ _ h => h) (Or.inl ⟨by rfl, ?_⟩) hHeld ?_
  rotate_left
  · (intro w hSw; (try dsimp only at hSw); go_simp; try with_reducible rfl)
  try simp only [Act.put, List.setIfInBounds_toArray, List.set_cons_zero, List.set_cons_succ]
  refine wpAnyH_take (i := 4) (oi := { dst := some 53, op := Go.Op.fieldAddr 129 (Go.Operand.tmp 52) 1, type := 0, pos := "ref.go:91", after := #[{ on := 3, ground := Go.Ground.data }], guard := none }) (v := ?_) rfl (by as_aux_lemma => kernel_rfl) (by as_aux_lemma => kernel_rfl) (by as_aux_lemma => kernel_rfl) (fun _ _ _ h => h) (Or.inl ⟨by rfl, ?_⟩) hHeld ?_
  rotate_left
  · (intro w hSw; (try dsimp only at hSw); go_simp; try with_reducible rfl)
  try simp only [Act.put, List.setIfInBounds_toArray, List.set_cons_zero, List.set_cons_succ]
  refine wpAnyH_take (i := 5) (oi := { dst := some 54, op := Go.Op.load 9 (Go.Operand.tmp 53), type := 9, pos := "ref.go:91", after := #[{ on := 4, ground := Go.Ground.data }], guard := none }) (v := ?_) rfl (by as_aux_lemma => kernel_rfl) (by as_aux_lemma => kernel_rfl) (by as_aux_lemma => kernel_rfl) (fun _ _ _ h => h) (Or.inl ⟨by rfl, ?_⟩) hHeld ?_
  rotate_left
  · (intro w hSw; (try dsimp only at hSw); go_simp; try with_reducible rfl)
  try simp only [Act.put, List.setIfInBounds_toArray, List.set_cons_zero, List.set_cons_succ]
  refine wpAnyH_take (i := 6) (oi := { dst := some 55, op := Go.Op.move (Go.Operand.tmp 0), type := 68, pos := "ref.go:91", after := #[], guard := none }) (v := ?_) rfl (by as_aux_lemma => kernel_rfl) (by as_aux_lemma => kernel_rfl) (by as_aux_lemma => kernel_rfl) (fun _ _ _ h => h) (Or.inl ⟨by rfl, ?_⟩) hHeld ?_
  rotate_left
  · (intro w hSw; (try dsimp only at hSw); go_simp; try with_reducible rfl)
  try simp only [Act.put, List.setIfInBounds_toArray, List.set_cons_zero, List.set_cons_succ]
  refine wpAnyH_take (i := 7) (oi := { dst := some 56, op := Go.Op.move (Go.Operand.tmp 1), type := 3, pos := "ref.go:91", after := #[], guard := none }) (v := ?_) rfl (by as_aux_lemma => kernel_rfl) (by as_aux_lemma => kernel_rfl) (by as_aux_lemma => kernel_rfl) (fun _ _ _ h => h) (Or.inl ⟨by rfl, ?_⟩) hHeld ?_
  rotate_left
  · (intro w hSw; (try dsimp only at hSw); go_simp; try with_reducible rfl)
  try simp only [Act.put, List.setIfInBounds_toArray, List.set_cons_zero, List.set_cons_succ]
  refine wpAnyH_take (i := 8) (oi := { dst := some 57, op := Go.Op.binOp Go.BinOp.add 3 (Go.Operand.tmp 56) (Go.Operand.const (Go.Value.int Go.IntKind.i64 2)) 3, type := 3, pos := "ref.go:91", after := #[{ on := 7, ground := Go.Ground.data }], guard := none }) (v := ?_) rfl (by as_aux_lemma => kernel_rfl) (by as_aux_lemma => kernel_rfl) (by as_aux_lemma => kernel_rfl) (fun _ _ _ h => h) (Or.inl ⟨by rfl, ?_⟩) hHeld ?_
  rotate_left
  · (intro w hSw; (try dsimp only at hSw); go_simp; try with_reducible rfl)
  try simp only [Act.put, List.setIfInBounds_toArray, List.set_cons_zero, List.set_cons_succ]
  refine wpAnyH_take (i := 9) (oi := { dst := some 58, op := Go.Op.indexAddr 68 (Go.Operand.tmp 55) (Go.Operand.tmp 57), type := 0, pos := "ref.go:91", after := #[{ on := 6, ground := Go.Ground.data }, { on := 8, ground := Go.Ground.data }], guard := none }) (v := ?_) rfl (by as_aux_lemma => kernel_rfl) (by as_aux_lemma => kernel_rfl) (by as_aux_lemma => kernel_rfl) (fun _ _ _ h => h) (Or.inl ⟨by rfl, ?_⟩) hHeld ?_
  rotate_left
  · (intro w hSw; (try dsimp only at hSw); go_simp; try with_reducible rfl)
  try simp only [Act.put, List.setIfInBounds_toArray, List.set_cons_zero, List.set_cons_succ]
  refine wpAnyH_take (i := 10) (oi := { dst := some 59, op := Go.Op.fieldAddr 129 (Go.Operand.tmp 58) 1, type := 0, pos := "ref.go:91", after := #[{ on := 9, ground := Go.Ground.data }], guard := none }) (v := ?_) rfl (by as_aux_lemma => kernel_rfl) (by as_aux_lemma => kernel_rfl) (by as_aux_lemma => kernel_rfl) (fun _ _ _ h => h) (Or.inl ⟨by rfl, ?_⟩) hHeld ?_
  rotate_left
  · (intro w hSw; (try dsimp only at hSw); go_simp; try with_reducible rfl)
  try simp only [Act.put, List.setIfInBounds_toArray, List.set_cons_zero, List.set_cons_succ]
  refine wpAnyH_take (i := 11) (oi := { dst := some 60, op := Go.Op.load 9 (Go.Operand.tmp 59), type := 9, pos := "ref.go:91", after := #[{ on := 10, ground := Go.Ground.data }], guard := none }) (v := ?_) rfl (by as_aux_lemma => kernel_rfl) (by as_aux_lemma => kernel_rfl) (by as_aux_lemma => kernel_rfl) (fun _ _ _ h => h) (Or.inl ⟨by rfl, ?_⟩) hHeld ?_
  rotate_left
  · (intro w hSw; (try dsimp only at hSw); go_simp; try with_reducible rfl)
  try simp only [Act.put, List.setIfInBounds_toArray, List.set_cons_zero, List.set_cons_succ]
  have HC := hHeld
  refine wpAnyH_ready (rs := [12, 14]) (by as_aux_lemma => kernel_rfl) (List.cons_ne_nil _ _) ?_
  refine AllReadyH.cons (o := { dst := some 61, op := Go.Op.call { callee := Go.Callee.value (Go.Operand.func 45), args := #[Go.Operand.tmp 60], argTypes := #[9] }, type := 3, pos := "ref.go:91", after := #[{ on := 11, ground := Go.Ground.data }], guard := none }) rfl (fun K hK => ?_) (AllReadyH.cons (o := { dst := some 7, op := Go.Op.alloc 64, type := 0, pos := "ref.go:91", after := #[], guard := none }) rfl (fun K hK => ?_) AllReadyH.nil)
  · go_simp
    refine (hR.out _).mono ?_
    rintro E wc ⟨rfl, rfl⟩
    go_wp2_with fail
    refine hK.out _ _ hHeld (fun _ => ?_)
    clear hK K
    try simp only [Act.put, List.setIfInBounds_toArray, List.set_cons_zero, List.set_cons_succ]
    refine wpAnyH_take (i := 13) (oi := { dst := some 62, op := Go.Op.build 64 #[(0, Go.Operand.const (Go.Value.int Go.IntKind.i64 1)), (2, Go.Operand.tmp 54), (3, Go.Operand.tmp 61)], type := 64, pos := "ref.go:91", after := #[{ on := 5, ground := Go.Ground.data }, { on := 12, ground := Go.Ground.data }], guard := none }) (v := ?_) rfl (by as_aux_lemma => kernel_rfl) (by as_aux_lemma => kernel_rfl) (by as_aux_lemma => kernel_rfl) (fun _ _ _ h => h) (Or.inl ⟨by rfl, ?_⟩) hHeld ?_
    rotate_left
    · (intro w hSw; (try dsimp only at hSw); go_simp; try with_reducible rfl)
    try simp only [Act.put, List.setIfInBounds_toArray, List.set_cons_zero, List.set_cons_succ]
    refine wpAnyH_ready (rs := [14]) (by as_aux_lemma => kernel_rfl) (List.cons_ne_nil _ _) ?_
    refine AllReadyH.cons (o := { dst := some 7, op := Go.Op.alloc 64, type := 0, pos := "ref.go:91", after := #[], guard := none }) rfl (fun K hK => ?_) AllReadyH.nil
    go_simp
    refine hK.out _ _ (Lib.hid (hHeld.out.alloc hHeld.out.size _)) (fun hHeld2 => ?_)
    clear hK K hHeld
    have hHeld := hHeld2
    clear hHeld2
    try simp only [Act.put, List.setIfInBounds_toArray, List.set_cons_zero, List.set_cons_succ]
    refine wpAnyH_ready (rs := [15]) (by as_aux_lemma => kernel_rfl) (List.cons_ne_nil _ _) ?_
    refine AllReadyH.cons (o := { dst := none, op := Go.Op.store 64 (Go.Operand.tmp 7) (Go.Operand.tmp 62), type := 0, pos := "ref.go:91", after := #[{ on := 14, ground := Go.Ground.data }, { on := 13, ground := Go.Ground.data }, { on := 12, ground := Go.Ground.chain }, { on := 0, ground := Go.Ground.phase }, { on := 1, ground := Go.Ground.phase }, { on := 2, ground := Go.Ground.phase }, { on := 3, ground := Go.Ground.phase }, { on := 4, ground := Go.Ground.phase }, { on := 5, ground := Go.Ground.phase }, { on := 6, ground := Go.Ground.phase }, { on := 7, ground := Go.Ground.phase }, { on := 8, ground := Go.Ground.phase }, { on := 9, ground := Go.Ground.phase }, { on := 10, ground := Go.Ground.phase }, { on := 11, ground := Go.Ground.phase }, { on := 12, ground := Go.Ground.phase }, { on := 13, ground := Go.Ground.phase }, { on := 14, ground := Go.Ground.phase }], guard := none }) rfl (fun K hK => ?_) AllReadyH.nil
    go_wp2_with fail
    refine hK.out _ _ (Lib.hid (HC.out.alloc HC.out.size _)) (fun _ => ?_)
    clear hK K
    try simp only [Act.put, List.setIfInBounds_toArray, List.set_cons_zero, List.set_cons_succ]
    refine wpAnyH_done (by kernel_rfl) ?_ _
    refine NoPanic.normal ?_
    have hb3 := HC.out.alloc HC.out.size (.cells #[.int .i64 1, .int .i64 0, .string (B x), .int .i64 (typW z), .string ⟨#[]⟩, .slice none 0 0, .slice none 0 0, .slice none 0 0] 64)
    have hrow := heap_alloc_new wc (.cells #[.int .i64 1, .int .i64 0, .string (B x), .int .i64 (typW z), .string ⟨#[]⟩, .slice none 0 0, .slice none 0 0, .slice none 0 0] 64)
    generalize wc.alloc (.cells #[.int .i64 1, .int .i64 0, .string (B x), .int .i64 (typW z), .string ⟨#[]⟩, .slice none 0 0, .slice none 0 0, .slice none 0 0] 64) = W9 at *
    generalize wc.heap.size = pb at *
    obtain ⟨hQ, hbw⟩ := box1 w (after HB1.out hb3)
    have HQ4 := Lib.hid hQ
    have HBW := Lib.hid hbw
    have HROW := Lib.hid hrow
    clear hHeld HC hb3 hrow hQ hbw x0 x1 x2 y0 y1 y2 qx qz HB1 hR
    go_wp2_with fail
    refine (sgn6 (tokU HT.out HBW.out) qs (by simp) (by omega)).mono ?_
    rintro E w4 ⟨rfl, hb⟩
    have hpl : pb < W9.heap.size := (row8_R8 HROW.out).lt
    have hrow4 := (hb.block pb hpl).trans HROW.out
    have hp4 : pb < w4.heap.size := (row8_R8 hrow4).lt
    obtain ⟨k0, k1, k2, k3, k4, k5, k6, k7⟩ := row8_facts hrow4
    have hQ := HQ4.out.bel hb
    have hbw := after HBW.out hb
    have hq1 := hQ.lt
    have D := Lib.hid (valued6 (tokU HT.out hbw) hll (R := NoR) (fun _ h => h.elim) (is_empty w4 (s := ⟨1, 0, x, typW z, [], [], [], []⟩) ⟨ok_i (k := 1) rfl, ok_i (k := 0) rfl, typ_okI z, ytl, by simp⟩ rfl rfl rfl) (push_nil _ _) (i + 4) (by omega) (fun e => sVar x (typW z) [e]) (fun _ => rfl))
    have HQ := Lib.hid hQ
    have HB9 := Lib.hid hbw
    clear hQ hbw hrow4 hb HQ4 HBW HROW HT
    go_wp2_with fail
    refine D.out.mono ?_
    intro E w10 hP
    cases hr : valS l (fun e => sVar x (typW z) [e]) (i + 4) with
    | bad j c' =>
      rw [hr] at hP
      have Hr := Lib.hid hr
      clear hr
      obtain ⟨rfl, hb⟩ := hP
      have hQ := HQ.out.bel hb
      have hq2 := hQ.lt
      obtain ⟨z0, z1, z2, z3, z4, z5, z6, z7, r0, r1, r2, r3, r4, r5, r6, r7, y0, y1, y2, y3, y4, y5, y6, y7⟩ := hQ.facts
      have HB := Lib.hid (put8_below (after HB9.out hb) (q := w.heap.size) (Nat.le_refl _) (.int .i64 0) (.int .i64 0) (.string ⟨#[]⟩) (.int .i64 0) (.string ⟨#[]⟩) (.slice none 0 0) (.slice none 0 0) (.slice none 0 0))
      clear hb hQ HQ HB9 D
      go_wp2_with fail
      exact bodyPost_ret (v := .tuple #[S3.sV zS (.slice none 0 0) (.slice none 0 0) (.slice none 0 0), .int .i64 (j : Int), .int .i64 c']) (by simp [results, Tryz.results111, go_sem, zS, r0, r1, r2, r3, r4, r5, r6, r7]) rfl (by rw [Hr.out]; exact ⟨rfl, HB.out⟩)
    | ok s2 m =>
      rw [hr] at hP
      have Hr := Lib.hid hr
      clear hr
      obtain ⟨va2, vb2, ve2, rfl, hS2, hb⟩ := hP
      obtain ⟨Aa2, ca2, rfl⟩ := hS2.a.slice
      obtain ⟨Ab2, cb2, rfl⟩ := hS2.b.slice
      obtain ⟨Ae2, ce2, rfl⟩ := hS2.e.slice
      have hQ := HQ.out.bel hb
      have hq2 := hQ.lt
      obtain ⟨z0, z1, z2, z3, z4, z5, z6, z7, r0, r1, r2, r3, r4, r5, r6, r7, y0, y1, y2, y3, y4, y5, y6, y7⟩ := hQ.facts
      have HB := Lib.hid (nfin (R := NoR) s2 HB9.out HQ.out.lt (fun _ h => h.elim) hS2 hb (.int .i64 s2.kind) (.int .i64 s2.no) (.string (S3.B s2.name)) (.int .i64 s2.typ) (.string (S3.B s2.callee)) (.slice Aa2 s2.args.length ca2) (.slice Ab2 s2.body.length cb2) (.slice Ae2 s2.els.length ce2))
      clear hb hQ HQ HB9 hS2 D
      go_wp2_with fail
      exact bodyPost_ret (v := .tuple #[(S3.sV s2 (.slice Aa2 s2.args.length ca2) (.slice Ab2 s2.body.length cb2) (.slice Ae2 s2.els.length ce2)), .int .i64 (m : Int), .int .i64 0]) (by simp [results, Tryz.results111, go_sem, r0, r1, r2, r3, r4, r5, r6, r7]) rfl (by rw [Hr.out]; exact ⟨_, _, _, rfl, HB.out.1, HB.out.2⟩)
  · go_simp
    refine hK.out _ _ (Lib.hid (hHeld.out.alloc hHeld.out.size _)) (fun hHeld2 => ?_)
    clear hK K hHeld
    have hHeld := hHeld2
    clear hHeld2
    try simp only [Act.put, List.setIfInBounds_toArray, List.set_cons_zero, List.set_cons_succ]
    refine wpAnyH_ready (rs := [12]) (by as_aux_lemma => kernel_rfl) (List.cons_ne_nil _ _) ?_
    refine AllReadyH.cons (o := { dst := some 61, op := Go.Op.call { callee := Go.Callee.value (Go.Operand.func 45), args := #[Go.Operand.tmp 60], argTypes := #[9] }, type := 3, pos := "ref.go:91", after := #[{ on := 11, ground := Go.Ground.data }], guard := none }) rfl (fun K hK => ?_) AllReadyH.nil
    go_simp
    refine (hR.out _).mono ?_
    rintro E wc ⟨rfl, rfl⟩
    go_wp2_with fail
    refine hK.out _ _ hHeld (fun _ => ?_)
    clear hK K
    try simp only [Act.put, List.setIfInBounds_toArray, List.set_cons_zero, List.set_cons_succ]
    refine wpAnyH_take (i := 13) (oi := { dst := some 62, op := Go.Op.build 64 #[(0, Go.Operand.const (Go.Value.int Go.IntKind.i64 1)), (2, Go.Operand.tmp 54), (3, Go.Operand.tmp 61)], type := 64, pos := "ref.go:91", after := #[{ on := 5, ground := Go.Ground.data }, { on := 12, ground := Go.Ground.data }], guard := none }) (v := ?_) rfl (by as_aux_lemma => kernel_rfl) (by as_aux_lemma => kernel_rfl) (by as_aux_lemma => kernel_rfl) (fun _ _ _ h => h) (Or.inl ⟨by rfl, ?_⟩) hHeld ?_
    rotate_left
    · (intro w hSw; (try dsimp only at hSw); go_simp; try with_reducible rfl)
    try simp only [Act.put, List.setIfInBounds_toArray, List.set_cons_zero, List.set_cons_succ]
    refine wpAnyH_ready (rs := [15]) (by as_aux_lemma => kernel_rfl) (List.cons_ne_nil _ _) ?_
    refine AllReadyH.cons (o := { dst := none, op := Go.Op.store 64 (Go.Operand.tmp 7) (Go.Operand.tmp 62), type := 0, pos := "ref.go:91", after := #[{ on := 14, ground := Go.Ground.data }, { on := 13, ground := Go.Ground.data }, { on := 12, ground := Go.Ground.chain }, { on := 0, ground := Go.Ground.phase }, { on := 1, ground := Go.Ground.phase }, { on := 2, ground := Go.Ground.phase }, { on := 3, ground := Go.Ground.phase }, { on := 4, ground := Go.Ground.phase }, { on := 5, ground := Go.Ground.phase }, { on := 6, ground := Go.Ground.phase }, { on := 7, ground := Go.Ground.phase }, { on := 8, ground := Go.Ground.phase }, { on := 9, ground := Go.Ground.phase }, { on := 10, ground := Go.Ground.phase }, { on := 11, ground := Go.Ground.phase }, { on := 12, ground := Go.Ground.phase }, { on := 13, ground := Go.Ground.phase }, { on := 14, ground := Go.Ground.phase }], guard := none }) rfl (fun K hK => ?_) AllReadyH.nil
    go_wp2_with fail
    refine hK.out _ _ (Lib.hid (HC.out.alloc HC.out.size _)) (fun _ => ?_)
    clear hK K
    try simp only [Act.put, List.setIfInBounds_toArray, List.set_cons_zero, List.set_cons_succ]
    refine wpAnyH_done (by kernel_rfl) ?_ _
    refine NoPanic.normal ?_
    have hb3 := HC.out.alloc HC.out.size (.cells #[.int .i64 1, .int .i64 0, .string (B x), .int .i64 (typW z), .string ⟨#[]⟩, .slice none 0 0, .slice none 0 0, .slice none 0 0] 64)
    have hrow := heap_alloc_new wd (.cells #[.int .i64 1, .int .i64 0, .string (B x), .int .i64 (typW z), .string ⟨#[]⟩, .slice none 0 0, .slice none 0 0, .slice none 0 0] 64)
    generalize wd.alloc (.cells #[.int .i64 1, .int .i64 0, .string (B x), .int .i64 (typW z), .string ⟨#[]⟩, .slice none 0 0, .slice none 0 0, .slice none 0 0] 64) = W9 at *
    generalize wd.heap.size = pb at *
    obtain ⟨hQ, hbw⟩ := box1 w (after HB1.out hb3)
    have HQ4 := Lib.hid hQ
    have HBW := Lib.hid hbw
    have HROW := Lib.hid hrow
    clear hHeld HC hb3 hrow hQ hbw x0 x1 x2 y0 y1 y2 qx qz HB1 hR
    go_wp2_with fail
    refine (sgn6 (tokU HT.out HBW.out) qs (by simp) (by omega)).mono ?_
    rintro E w4 ⟨rfl, hb⟩
    have hpl : pb < W9.heap.size := (row8_R8 HROW.out).lt
    have hrow4 := (hb.block pb hpl).trans HROW.out
    have hp4 : pb < w4.heap.size := (row8_R8 hrow4).lt
    obtain ⟨k0, k1, k2, k3, k4, k5, k6, k7⟩ := row8_facts hrow4
    have hQ := HQ4.out.bel hb
    have hbw := after HBW.out hb
    have hq1 := hQ.lt
    have D := Lib.hid (valued6 (tokU HT.out hbw) hll (R := NoR) (fun _ h => h.elim) (is_empty w4 (s := ⟨1, 0, x, typW z, [], [], [], []⟩) ⟨ok_i (k := 1) rfl, ok_i (k := 0) rfl, typ_okI z, ytl, by simp⟩ rfl rfl rfl) (push_nil _ _) (i + 4) (by omega) (fun e => sVar x (typW z) [e]) (fun _ => rfl))
    have HQ := Lib.hid hQ
    have HB9 := Lib.hid hbw
    clear hQ hbw hrow4 hb HQ4 HBW HROW HT
    go_wp2_with fail
    refine D.out.mono ?_
    intro E w10 hP
    cases hr : valS l (fun e => sVar x (typW z) [e]) (i + 4) with
    | bad j c' =>
      rw [hr] at hP
      have Hr := Lib.hid hr
      clear hr
      obtain ⟨rfl, hb⟩ := hP
      have hQ := HQ.out.bel hb
      have hq2 := hQ.lt
      obtain ⟨z0, z1, z2, z3, z4, z5, z6, z7, r0, r1, r2, r3, r4, r5, r6, r7, y0, y1, y2, y3, y4, y5, y6, y7⟩ := hQ.facts
      have HB := Lib.hid (put8_below (after HB9.out hb) (q := w.heap.size) (Nat.le_refl _) (.int .i64 0) (.int .i64 0) (.string ⟨#[]⟩) (.int .i64 0) (.string ⟨#[]⟩) (.slice none 0 0) (.slice none 0 0) (.slice none 0 0))
      clear hb hQ HQ HB9 D
      go_wp2_with fail
      exact bodyPost_ret (v := .tuple #[S3.sV zS (.slice none 0 0) (.slice none 0 0) (.slice none 0 0), .int .i64 (j : Int), .int .i64 c']) (by simp [results, Tryz.results111, go_sem, zS, r0, r1, r2, r3, r4, r5, r6, r7]) rfl (by rw [Hr.out]; exact ⟨rfl, HB.out⟩)
    | ok s2 m =>
      rw [hr] at hP
      have Hr := Lib.hid hr
      clear hr
      obtain ⟨va2, vb2, ve2, rfl, hS2, hb⟩ := hP
      obtain ⟨Aa2, ca2, rfl⟩ := hS2.a.slice
      obtain ⟨Ab2, cb2, rfl⟩ := hS2.b.slice
      obtain ⟨Ae2, ce2, rfl⟩ := hS2.e.slice
      have hQ := HQ.out.bel hb
      have hq2 := hQ.lt
      obtain ⟨z0, z1, z2, z3, z4, z5, z6, z7, r0, r1, r2, r3, r4, r5, r6, r7, y0, y1, y2, y3, y4, y5, y6, y7⟩ := hQ.facts
      have HB := Lib.hid (nfin (R := NoR) s2 HB9.out HQ.out.lt (fun _ h => h.elim) hS2 hb (.int .i64 s2.kind) (.int .i64 s2.no) (.string (S3.B s2.name)) (.int .i64 s2.typ) (.string (S3.B s2.callee)) (.slice Aa2 s2.args.length ca2) (.slice Ab2 s2.body.length cb2) (.slice Ae2 s2.els.length ce2))
      clear hb hQ HQ HB9 hS2 D
      go_wp2_with fail
      exact bodyPost_ret (v := .tuple #[(S3.sV s2 (.slice Aa2 s2.args.length ca2) (.slice Ab2 s2.body.length cb2) (.slice Ae2 s2.els.length ce2)), .int .i64 (m : Int), .int .i64 0]) (by simp [results, Tryz.results111, go_sem, r0, r1, r2, r3, r4, r5, r6, r7]) rfl (by rw [Hr.out]; exact ⟨_, _, _, rfl, HB.out.1, HB.out.2⟩)
set_option maxRecDepth 100000 in
set_option maxHeartbeats 8000000 in
theorem var_decl {w : World} {l : TL} {v : Value} (hT : TokL w w.heap.size v l) (hll : l.length ≤ 1000000) (i : Nat) (hn : nmTok (tkAt l (i + 1)) = true) (h2 : i + 2 < l.length) (h3 : (tkAt l (i + 2)).1 = 3) (h4 : typW (tkAt l (i + 2)).2 ≠ 0) (h5 : sgAt l (i + 3) ≠ [61]) :
    Calls Tryz.prog 111 #[v, .int .i64 (i : Int)] w (PostPS w (endS l (sVar (tkAt l (i + 1)).2 (typW (tkAt l (i + 2)).2) []) (i + 3))) := by
  have hi1 := nm_lt hn
  have qg : ¬ (l.length : Int) ≤ (i : Int) + 2 := by omega
  have ql : (i : Int) + 2 < (l.length : Int) := by omega
  have ql1 : (i : Int) + 1 < (l.length : Int) := by omega
  have q0 : (0 : Int) ≤ (i : Int) + 2 := by omega
  have q01 : (0 : Int) ≤ (i : Int) + 1 := by omega
  have q3 : ((tkAt l (i + 2)).1 == 3) = true := by rw [h3]; rfl
  have q4 : (typW (tkAt l (i + 2)).2 == 0) = false := beq_eq_false_iff_ne.2 h4
  have qs : (sgAt l (i + 3) == [61]) = false := beq_eq_false_iff_ne.2 h5
  obtain ⟨TA, Tc, rfl⟩ := hT.val
  have HT := Lib.hid hT
  have hn1 : IntKind.i64.wrap ((i : Int) + 1) = (i : Int) + 1 := IntWalk.i64_in _ (by omega)
  have hn2 : IntKind.i64.wrap ((i : Int) + 2) = (i : Int) + 2 := IntWalk.i64_in _ (by omega)
  have hn3 : IntKind.i64.wrap ((i : Int) + 3) = (i : Int) + 3 := IntWalk.i64_in _ (by omega)
  have hn4 : IntKind.i64.wrap ((i : Int) + 4) = (i : Int) + 4 := IntWalk.i64_in _ (by omega)
  generalize hx : (tkAt l (i + 1)).2 = x at *
  generalize hz : (tkAt l (i + 2)).2 = z at *
  clear hT 
  go_enter Tryz.func111, Tryz.ntmps111
  try simp only [List.append_eq, List.cons_append, List.nil_append]
  go_wp2_with fail
  refine (nam6 (tokU HT.out (S3.bal w _)) hn (by omega)).mono ?_
  rintro E w1 ⟨rfl, hb⟩
  have HB1 := Lib.hid hb
  clear hb
  obtain ⟨_, xtl, xb, xo, xa, heX, xlt, x0, x1, x2⟩ := (tokU HT.out (after (S3.bal w _) HB1.out)).at3 (i + 2) (by omega)
  obtain ⟨_, ytl, yb, yo, ya, heA, ylt, y0, y1, y2⟩ := (tokU HT.out (after (S3.bal w _) HB1.out)).at3 (i + 1) (by omega)
  rw [heX] at heA
  injection heA with heA
  injection heA with e1 e2
  subst e1 e2 heX
  rw [hz] at xtl x1
  rw [hx] at ytl y1
  have hR := Lib.hid (fun W => reftypW z W)
  have hbw1 := after (S3.bal w _) HB1.out
  have hlt1 : xb < w1.heap.size := xlt
  go_wp2_with fail
  refine (hR.out _).mono ?_
  rintro E w2 ⟨rfl, rfl⟩
  go_wp2_with fail
  have qn1 : ((i : Int) + 1).toNat = i + 1 := by omega
  have qn2 : ((i : Int) + 2).toNat = i + 2 := by omega
  have qx := fun W1 (h : Hid (Below w2.heap.size w2 W1)) => (h.out.cell (p := ⟨xb, xo + (i + 1) * 3 + 1, none⟩) hlt1).trans y1
  have qz := fun W1 (h : Hid (Below w2.heap.size w2 W1)) => (h.out.cell (p := ⟨xb, xo + (i + 2) * 3 + 1, none⟩) hlt1).trans x1
  have hS0 := Lib.hid (bal_dr2 w2)
  refine wp_region_noPanic ?_
  refine wp_region_held_drew (S := fun W1 => Hid (Below w2.heap.size w2 W1)) (by kernel_rfl) hS0 (fun hHeld => ?_)
  clear hS0
  generalize w2.drew = wd at *
  have hdz := hHeld.out.size
  refine wpAnyH_take (i := 0) (oi := { dst := some 49, op := Go.Op.move (Go.Operand.tmp 0), type := 68, pos := "ref.go:91", after := #[], guard := none }) (v := ?_) rfl (by as_aux_lemma => kernel_rfl) (by as_aux_lemma => kernel_rfl) (by as_aux_lemma => kernel_rfl) (fun _ _ _ h => h) (Or.inl ⟨by rfl, ?_⟩) hHeld ?_
  rotate_left
  · (intro w hSw; (try dsimp only at hSw); go_simp; try with_reducible rfl)
  try simp only [Act.put, List.setIfInBounds_toArray, List.set_cons_zero, List.set_cons_succ]
  refine wpAnyH_take (i := 1) (oi := { dst := some 50, op := Go.Op.move (Go.Operand.tmp 1), type := 3, pos := "ref.go:91", after := #[], guard := none }) (v := ?_) rfl (by as_aux_lemma => kernel_rfl) (by as_aux_lemma => kernel_rfl) (by as_aux_lemma => kernel_rfl) (fun _ _ _ h => h) (Or.inl ⟨by rfl, ?_⟩) hHeld ?_
  rotate_left
  · (intro w hSw; (try dsimp only at hSw); go_simp; try with_reducible rfl)
  try simp only [Act.put, List.setIfInBounds_toArray, List.set_cons_zero, List.set_cons_succ]
  refine wpAnyH_take (i := 2) (oi := { dst := some 51, op := Go.Op.binOp Go.BinOp.add 3 (Go.Operand.tmp 50) (Go.Operand.const (Go.Value.int Go.IntKind.i64 1)) 3, type := 3, pos := "ref.go:91", after := #[{ on := 1, ground := Go.Ground.data }], guard := none }) (v := ?_) rfl (by as_aux_lemma => kernel_rfl) (by as_aux_lemma => kernel_rfl) (by as_aux_lemma => kernel_rfl) (fun _ _ _ h => h) (Or.inl ⟨by rfl, ?_⟩) hHeld ?_
  rotate_left
  · (intro w hSw; (try dsimp only at hSw); go_simp; try with_reducible rfl)
  try simp only [Act.put, List.setIfInBounds_toArray, List.set_cons_zero, List.set_cons_succ]
  refine wpAnyH_take (i := 3) (oi := { dst := some 52, op := Go.Op.indexAddr 68 (Go.Operand.tmp 49) (Go.Operand.tmp 51), type := 0, pos := "ref.go:91", after := #[{ on := 0, ground := Go.Ground.data }, { on := 2, ground := Go.Ground.data }], guard := none }) (v := ?_) rfl (by as_aux_lemma => kernel_rfl) (by as_aux_lemma => kernel_rfl) (by as_aux_lemma => kernel_rfl) (fun _ _ _ h => h) (Or.inl ⟨by rfl, ?_⟩) hHeld ?_
  rotate_left
  · (intro w hSw; (try dsimp only at hSw); go_simp; try with_reducible rfl)
  try simp only [Act.put, List.setIfInBounds_toArray, List.set_cons_zero, List.set_cons_succ]
  refine wpAnyH_take (i := 4) (oi := { dst := some 53, op := Go.Op.fieldAddr 129 (Go.Operand.tmp 52) 1, type := 0, pos := "ref.go:91", after := #[{ on := 3, ground := Go.Ground.data }], guard := none }) (v := ?_) rfl (by as_aux_lemma => kernel_rfl) (by as_aux_lemma => kernel_rfl) (by as_aux_lemma => kernel_rfl) (fun _ _ _ h => h) (Or.inl ⟨by rfl, ?_⟩) hHeld ?_
  rotate_left
  · (intro w hSw; (try dsimp only at hSw); go_simp; try with_reducible rfl)
  try simp only [Act.put, List.setIfInBounds_toArray, List.set_cons_zero, List.set_cons_succ]
  refine wpAnyH_take (i := 5) (oi := { dst := some 54, op := Go.Op.load 9 (Go.Operand.tmp 53), type := 9, pos := "ref.go:91", after := #[{ on := 4, ground := Go.Ground.data }], guard := none }) (v := ?_) rfl (by as_aux_lemma => kernel_rfl) (by as_aux_lemma => kernel_rfl) (by as_aux_lemma => kernel_rfl) (fun _ _ _ h => h) (Or.inl ⟨by rfl, ?_⟩) hHeld ?_
  rotate_left
  · (intro w hSw; (try dsimp only at hSw); go_simp; try with_reducible rfl)
  try simp only [Act.put, List.setIfInBounds_toArray, List.set_cons_zero, List.set_cons_succ]
  refine wpAnyH_take (i := 6) (oi := { dst := some 55, op := Go.Op.move (Go.Operand.tmp 0), type := 68, pos := "ref.go:91", after := #[], guard := none }) (v := ?_) rfl (by as_aux_lemma => kernel_rfl) (by as_aux_lemma => kernel_rfl) (by as_aux_lemma => kernel_rfl) (fun _ _ _ h => h) (Or.inl ⟨by rfl, ?_⟩) hHeld ?_
  rotate_left
  · (intro w hSw; (try dsimp only at hSw); go_simp; try with_reducible rfl)
  try simp only [Act.put, List.setIfInBounds_toArray, List.set_cons_zero, List.set_cons_succ]
  refine wpAnyH_take (i := 7) (oi := { dst := some 56, op := Go.Op.move (Go.Operand.tmp 1), type := 3, pos := "ref.go:91", after := #[], guard := none }) (v := ?_) rfl (by as_aux_lemma => kernel_rfl) (by as_aux_lemma => kernel_rfl) (by as_aux_lemma => kernel_rfl) (fun _ _ _ h => h) (Or.inl ⟨by rfl, ?_⟩) hHeld ?_
  rotate_left
  · (intro w hSw; (try dsimp only at hSw); go_simp; try with_reducible rfl)
  try simp only [Act.put, List.setIfInBounds_toArray, List.set_cons_zero, List.set_cons_succ]
  refine wpAnyH_take (i := 8) (oi := { dst := some 57, op := Go.Op.binOp Go.BinOp.add 3 (Go.Operand.tmp 56) (Go.Operand.const (Go.Value.int Go.IntKind.i64 2)) 3, type := 3, pos := "ref.go:91", after := #[{ on := 7, ground := Go.Ground.data }], guard := none }) (v := ?_) rfl (by as_aux_lemma => kernel_rfl) (by as_aux_lemma => kernel_rfl) (by as_aux_lemma => kernel_rfl) (fun _ _ _ h => h) (Or.inl ⟨by rfl, ?_⟩) hHeld ?_
  rotate_left
  · (intro w hSw; (try dsimp only at hSw); go_simp; try with_reducible rfl)
  try simp only [Act.put, List.setIfInBounds_toArray, List.set_cons_zero, List.set_cons_succ]
  refine wpAnyH_take (i := 9) (oi := { dst := some 58, op := Go.Op.indexAddr 68 (Go.Operand.tmp 55) (Go.Operand.tmp 57), type := 0, pos := "ref.go:91", after := #[{ on := 6, ground := Go.Ground.data }, { on := 8, ground := Go.Ground.data }], guard := none }) (v := ?_) rfl (by as_aux_lemma => kernel_rfl) (by as_aux_lemma => kernel_rfl) (by as_aux_lemma => kernel_rfl) (fun _ _ _ h => h) (Or.inl ⟨by rfl, ?_⟩) hHeld ?_
  rotate_left
  · (intro w hSw; (try dsimp only at hSw); go_simp; try with_reducible rfl)
  try simp only [Act.put, List.setIfInBounds_toArray, List.set_cons_zero, List.set_cons_succ]
  refine wpAnyH_take (i := 10) (oi := { dst := some 59, op := Go.Op.fieldAddr 129 (Go.Operand.tmp 58) 1, type := 0, pos := "ref.go:91", after := #[{ on := 9, ground := Go.Ground.data }], guard := none }) (v := ?_) rfl (by as_aux_lemma => kernel_rfl) (by as_aux_lemma => kernel_rfl) (by as_aux_lemma => kernel_rfl) (fun _ _ _ h => h) (Or.inl ⟨by rfl, ?_⟩) hHeld ?_
  rotate_left
  · (intro w hSw; (try dsimp only at hSw); go_simp; try with_reducible rfl)
  try simp only [Act.put, List.setIfInBounds_toArray, List.set_cons_zero, List.set_cons_succ]
  refine wpAnyH_take (i := 11) (oi := { dst := some 60, op := Go.Op.load 9 (Go.Operand.tmp 59), type := 9, pos := "ref.go:91", after := #[{ on := 10, ground := Go.Ground.data }], guard := none }) (v := ?_) rfl (by as_aux_lemma => kernel_rfl) (by as_aux_lemma => kernel_rfl) (by as_aux_lemma => kernel_rfl) (fun _ _ _ h => h) (Or.inl ⟨by rfl, ?_⟩) hHeld ?_
  rotate_left
  · (intro w hSw; (try dsimp only at hSw); go_simp; try with_reducible rfl)
  try simp only [Act.put, List.setIfInBounds_toArray, List.set_cons_zero, List.set_cons_succ]
  have HC := hHeld
  refine wpAnyH_ready (rs := [12, 14]) (by as_aux_lemma => kernel_rfl) (List.cons_ne_nil _ _) ?_
  refine AllReadyH.cons (o := { dst := some 61, op := Go.Op.call { callee := Go.Callee.value (Go.Operand.func 45), args := #[Go.Operand.tmp 60], argTypes := #[9] }, type := 3, pos := "ref.go:91", after := #[{ on := 11, ground := Go.Ground.data }], guard := none }) rfl (fun K hK => ?_) (AllReadyH.cons (o := { dst := some 7, op := Go.Op.alloc 64, type := 0, pos := "ref.go:91", after := #[], guard := none }) rfl (fun K hK => ?_) AllReadyH.nil)
  · go_simp
    refine (hR.out _).mono ?_
    rintro E wc ⟨rfl, rfl⟩
    go_wp2_with fail
    refine hK.out _ _ hHeld (fun _ => ?_)
    clear hK K
    try simp only [Act.put, List.setIfInBounds_toArray, List.set_cons_zero, List.set_cons_succ]
    refine wpAnyH_take (i := 13) (oi := { dst := some 62, op := Go.Op.build 64 #[(0, Go.Operand.const (Go.Value.int Go.IntKind.i64 1)), (2, Go.Operand.tmp 54), (3, Go.Operand.tmp 61)], type := 64, pos := "ref.go:91", after := #[{ on := 5, ground := Go.Ground.data }, { on := 12, ground := Go.Ground.data }], guard := none }) (v := ?_) rfl (by as_aux_lemma => kernel_rfl) (by as_aux_lemma => kernel_rfl) (by as_aux_lemma => kernel_rfl) (fun _ _ _ h => h) (Or.inl ⟨by rfl, ?_⟩) hHeld ?_
    rotate_left
    · (intro w hSw; (try dsimp only at hSw); go_simp; try with_reducible rfl)
    try simp only [Act.put, List.setIfInBounds_toArray, List.set_cons_zero, List.set_cons_succ]
    refine wpAnyH_ready (rs := [14]) (by as_aux_lemma => kernel_rfl) (List.cons_ne_nil _ _) ?_
    refine AllReadyH.cons (o := { dst := some 7, op := Go.Op.alloc 64, type := 0, pos := "ref.go:91", after := #[], guard := none }) rfl (fun K hK => ?_) AllReadyH.nil
    go_simp
    refine hK.out _ _ (Lib.hid (hHeld.out.alloc hHeld.out.size _)) (fun hHeld2 => ?_)
    clear hK K hHeld
    have hHeld := hHeld2
    clear hHeld2
    try simp only [Act.put, List.setIfInBounds_toArray, List.set_cons_zero, List.set_cons_succ]
    refine wpAnyH_ready (rs := [15]) (by as_aux_lemma => kernel_rfl) (List.cons_ne_nil _ _) ?_
    refine AllReadyH.cons (o := { dst := none, op := Go.Op.store 64 (Go.Operand.tmp 7) (Go.Operand.tmp 62), type := 0, pos := "ref.go:91", after := #[{ on := 14, ground := Go.Ground.data }, { on := 13, ground := Go.Ground.data }, { on := 12, ground := Go.Ground.chain }, { on := 0, ground := Go.Ground.phase }, { on := 1, ground := Go.Ground.phase }, { on := 2, ground := Go.Ground.phase }, { on := 3, ground := Go.Ground.phase }, { on := 4, ground := Go.Ground.phase }, { on := 5, ground := Go.Ground.phase }, { on := 6, ground := Go.Ground.phase }, { on := 7, ground := Go.Ground.phase }, { on := 8, ground := Go.Ground.phase }, { on := 9, ground := Go.Ground.phase }, { on := 10, ground := Go.Ground.phase }, { on := 11, ground := Go.Ground.phase }, { on := 12, ground := Go.Ground.phase }, { on := 13, ground := Go.Ground.phase }, { on := 14, ground := Go.Ground.phase }], guard := none }) rfl (fun K hK => ?_) AllReadyH.nil
    go_wp2_with fail
    refine hK.out _ _ (Lib.hid (HC.out.alloc HC.out.size _)) (fun _ => ?_)
    clear hK K
    try simp only [Act.put, List.setIfInBounds_toArray, List.set_cons_zero, List.set_cons_succ]
    refine wpAnyH_done (by kernel_rfl) ?_ _
    refine NoPanic.normal ?_
    have hb3 := HC.out.alloc HC.out.size (.cells #[.int .i64 1, .int .i64 0, .string (B x), .int .i64 (typW z), .string ⟨#[]⟩, .slice none 0 0, .slice none 0 0, .slice none 0 0] 64)
    have hrow := heap_alloc_new wc (.cells #[.int .i64 1, .int .i64 0, .string (B x), .int .i64 (typW z), .string ⟨#[]⟩, .slice none 0 0, .slice none 0 0, .slice none 0 0] 64)
    generalize wc.alloc (.cells #[.int .i64 1, .int .i64 0, .string (B x), .int .i64 (typW z), .string ⟨#[]⟩, .slice none 0 0, .slice none 0 0, .slice none 0 0] 64) = W9 at *
    generalize wc.heap.size = pb at *
    obtain ⟨hQ, hbw⟩ := box1 w (after HB1.out hb3)
    have HQ4 := Lib.hid hQ
    have HBW := Lib.hid hbw
    have HROW := Lib.hid hrow
    clear hHeld HC hb3 hrow hQ hbw x0 x1 x2 y0 y1 y2 qx qz HB1 hR
    go_wp2_with fail
    refine (sgn6 (tokU HT.out HBW.out) qs (by simp) (by omega)).mono ?_
    rintro E w4 ⟨rfl, hb⟩
    have hpl : pb < W9.heap.size := (row8_R8 HROW.out).lt
    have hrow4 := (hb.block pb hpl).trans HROW.out
    have hp4 : pb < w4.heap.size := (row8_R8 hrow4).lt
    obtain ⟨k0, k1, k2, k3, k4, k5, k6, k7⟩ := row8_facts hrow4
    have hQ := HQ4.out.bel hb
    have hbw := after HBW.out hb
    have hq1 := hQ.lt
    have D := Lib.hid (ended6 (tokU HT.out hbw) (R := NoR) (fun _ h => h.elim) (is_empty w4 (s := ⟨1, 0, x, typW z, [], [], [], []⟩) ⟨ok_i (k := 1) rfl, ok_i (k := 0) rfl, typ_okI z, ytl, by simp⟩ rfl rfl rfl) (i + 3) (by omega))
    have HQ := Lib.hid hQ
    have HB9 := Lib.hid hbw
    clear hQ hbw hrow4 hb HQ4 HBW HROW HT
    go_wp2_with fail
    refine D.out.mono ?_
    intro E w10 hP
    cases hr : endS l (sVar x (typW z) []) (i + 3) with
    | bad j c' =>
      rw [hr] at hP
      have Hr := Lib.hid hr
      clear hr
      obtain ⟨rfl, hb⟩ := hP
      have hQ := HQ.out.bel hb
      have hq2 := hQ.lt
      obtain ⟨z0, z1, z2, z3, z4, z5, z6, z7, r0, r1, r2, r3, r4, r5, r6, r7, y0, y1, y2, y3, y4, y5, y6, y7⟩ := hQ.facts
      have HB := Lib.hid (put8_below (after HB9.out hb) (q := w.heap.size) (Nat.le_refl _) (.int .i64 0) (.int .i64 0) (.string ⟨#[]⟩) (.int .i64 0) (.string ⟨#[]⟩) (.slice none 0 0) (.slice none 0 0) (.slice none 0 0))
      clear hb hQ HQ HB9 D
      go_wp2_with fail
      exact bodyPost_ret (v := .tuple #[S3.sV zS (.slice none 0 0) (.slice none 0 0) (.slice none 0 0), .int .i64 (j : Int), .int .i64 c']) (by simp [results, Tryz.results111, go_sem, zS, r0, r1, r2, r3, r4, r5, r6, r7]) rfl (by rw [Hr.out]; exact ⟨rfl, HB.out⟩)
    | ok s2 m =>
      rw [hr] at hP
      have Hr := Lib.hid hr
      clear hr
      obtain ⟨va2, vb2, ve2, rfl, hS2, hb⟩ := hP
      obtain ⟨Aa2, ca2, rfl⟩ := hS2.a.slice
      obtain ⟨Ab2, cb2, rfl⟩ := hS2.b.slice
      obtain ⟨Ae2, ce2, rfl⟩ := hS2.e.slice
      have hQ := HQ.out.bel hb
      have hq2 := hQ.lt
      obtain ⟨z0, z1, z2, z3, z4, z5, z6, z7, r0, r1, r2, r3, r4, r5, r6, r7, y0, y1, y2, y3, y4, y5, y6, y7⟩ := hQ.facts
      have HB := Lib.hid (nfin (R := NoR) s2 HB9.out HQ.out.lt (fun _ h => h.elim) hS2 hb (.int .i64 s2.kind) (.int .i64 s2.no) (.string (S3.B s2.name)) (.int .i64 s2.typ) (.string (S3.B s2.callee)) (.slice Aa2 s2.args.length ca2) (.slice Ab2 s2.body.length cb2) (.slice Ae2 s2.els.length ce2))
      clear hb hQ HQ HB9 hS2 D
      go_wp2_with fail
      exact bodyPost_ret (v := .tuple #[(S3.sV s2 (.slice Aa2 s2.args.length ca2) (.slice Ab2 s2.body.length cb2) (.slice Ae2 s2.els.length ce2)), .int .i64 (m : Int), .int .i64 0]) (by simp [results, Tryz.results111, go_sem, r0, r1, r2, r3, r4, r5, r6, r7]) rfl (by rw [Hr.out]; exact ⟨_, _, _, rfl, HB.out.1, HB.out.2⟩)
  · go_simp
    refine hK.out _ _ (Lib.hid (hHeld.out.alloc hHeld.out.size _)) (fun hHeld2 => ?_)
    clear hK K hHeld
    have hHeld := hHeld2
    clear hHeld2
    try simp only [Act.put, List.setIfInBounds_toArray, List.set_cons_zero, List.set_cons_succ]
    refine wpAnyH_ready (rs := [12]) (by as_aux_lemma => kernel_rfl) (List.cons_ne_nil _ _) ?_
    refine AllReadyH.cons (o := { dst := some 61, op := Go.Op.call { callee := Go.Callee.value (Go.Operand.func 45), args := #[Go.Operand.tmp 60], argTypes := #[9] }, type := 3, pos := "ref.go:91", after := #[{ on := 11, ground := Go.Ground.data }], guard := none }) rfl (fun K hK => ?_) AllReadyH.nil
    go_simp
    refine (hR.out _).mono ?_
    rintro E wc ⟨rfl, rfl⟩
    go_wp2_with fail
    refine hK.out _ _ hHeld (fun _ => ?_)
    clear hK K
    try simp only [Act.put, List.setIfInBounds_toArray, List.set_cons_zero, List.set_cons_succ]
    refine wpAnyH_take (i := 13) (oi := { dst := some 62, op := Go.Op.build 64 #[(0, Go.Operand.const (Go.Value.int Go.IntKind.i64 1)), (2, Go.Operand.tmp 54), (3, Go.Operand.tmp 61)], type := 64, pos := "ref.go:91", after := #[{ on := 5, ground := Go.Ground.data }, { on := 12, ground := Go.Ground.data }], guard := none }) (v := ?_) rfl (by as_aux_lemma => kernel_rfl) (by as_aux_lemma => kernel_rfl) (by as_aux_lemma => kernel_rfl) (fun _ _ _ h => h) (Or.inl ⟨by rfl, ?_⟩) hHeld ?_
    rotate_left
    · (intro w hSw; (try dsimp only at hSw); go_simp; try with_reducible rfl)
    try simp only [Act.put, List.setIfInBounds_toArray, List.set_cons_zero, List.set_cons_succ]
    refine wpAnyH_ready (rs := [15]) (by as_aux_lemma => kernel_rfl) (List.cons_ne_nil _ _) ?_
    refine AllReadyH.cons (o := { dst := none, op := Go.Op.store 64 (Go.Operand.tmp 7) (Go.Operand.tmp 62), type := 0, pos := "ref.go:91", after := #[{ on := 14, ground := Go.Ground.data }, { on := 13, ground := Go.Ground.data }, { on := 12, ground := Go.Ground.chain }, { on := 0, ground := Go.Ground.phase }, { on := 1, ground := Go.Ground.phase }, { on := 2, ground := Go.Ground.phase }, { on := 3, ground := Go.Ground.phase }, { on := 4, ground := Go.Ground.phase }, { on := 5, ground := Go.Ground.phase }, { on := 6, ground := Go.Ground.phase }, { on := 7, ground := Go.Ground.phase }, { on := 8, ground := Go.Ground.phase }, { on := 9, ground := Go.Ground.phase }, { on := 10, ground := Go.Ground.phase }, { on := 11, ground := Go.Ground.phase }, { on := 12, ground := Go.Ground.phase }, { on := 13, ground := Go.Ground.phase }, { on := 14, ground := Go.Ground.phase }], guard := none }) rfl (fun K hK => ?_) AllReadyH.nil
    go_wp2_with fail
    refine hK.out _ _ (Lib.hid (HC.out.alloc HC.out.size _)) (fun _ => ?_)
    clear hK K
    try simp only [Act.put, List.setIfInBounds_toArray, List.set_cons_zero, List.set_cons_succ]
    refine wpAnyH_done (by kernel_rfl) ?_ _
    refine NoPanic.normal ?_
    have hb3 := HC.out.alloc HC.out.size (.cells #[.int .i64 1, .int .i64 0, .string (B x), .int .i64 (typW z), .string ⟨#[]⟩, .slice none 0 0, .slice none 0 0, .slice none 0 0] 64)
    have hrow := heap_alloc_new wd (.cells #[.int .i64 1, .int .i64 0, .string (B x), .int .i64 (typW z), .string ⟨#[]⟩, .slice none 0 0, .slice none 0 0, .slice none 0 0] 64)
    generalize wd.alloc (.cells #[.int .i64 1, .int .i64 0, .string (B x), .int .i64 (typW z), .string ⟨#[]⟩, .slice none 0 0, .slice none 0 0, .slice none 0 0] 64) = W9 at *
    generalize wd.heap.size = pb at *
    obtain ⟨hQ, hbw⟩ := box1 w (after HB1.out hb3)
    have HQ4 := Lib.hid hQ
    have HBW := Lib.hid hbw
    have HROW := Lib.hid hrow
    clear hHeld HC hb3 hrow hQ hbw x0 x1 x2 y0 y1 y2 qx qz HB1 hR
    go_wp2_with fail
    refine (sgn6 (tokU HT.out HBW.out) qs (by simp) (by omega)).mono ?_
    rintro E w4 ⟨rfl, hb⟩
    have hpl : pb < W9.heap.size := (row8_R8 HROW.out).lt
    have hrow4 := (hb.block pb hpl).trans HROW.out
    have hp4 : pb < w4.heap.size := (row8_R8 hrow4).lt
    obtain ⟨k0, k1, k2, k3, k4, k5, k6, k7⟩ := row8_facts hrow4
    have hQ := HQ4.out.bel hb
    have hbw := after HBW.out hb
    have hq1 := hQ.lt
    have D := Lib.hid (ended6 (tokU HT.out hbw) (R := NoR) (fun _ h => h.elim) (is_empty w4 (s := ⟨1, 0, x, typW z, [], [], [], []⟩) ⟨ok_i (k := 1) rfl, ok_i (k := 0) rfl, typ_okI z, ytl, by simp⟩ rfl rfl rfl) (i + 3) (by omega))
    have HQ := Lib.hid hQ
    have HB9 := Lib.hid hbw
    clear hQ hbw hrow4 hb HQ4 HBW HROW HT
    go_wp2_with fail
    refine D.out.mono ?_
    intro E w10 hP
    cases hr : endS l (sVar x (typW z) []) (i + 3) with
    | bad j c' =>
      rw [hr] at hP
      have Hr := Lib.hid hr
      clear hr
      obtain ⟨rfl, hb⟩ := hP
      have hQ := HQ.out.bel hb
      have hq2 := hQ.lt
      obtain ⟨z0, z1, z2, z3, z4, z5, z6, z7, r0, r1, r2, r3, r4, r5, r6, r7, y0, y1, y2, y3, y4, y5, y6, y7⟩ := hQ.facts
      have HB := Lib.hid (put8_below (after HB9.out hb) (q := w.heap.size) (Nat.le_refl _) (.int .i64 0) (.int .i64 0) (.string ⟨#[]⟩) (.int .i64 0) (.string ⟨#[]⟩) (.slice none 0 0) (.slice none 0 0) (.slice none 0 0))
      clear hb hQ HQ HB9 D
      go_wp2_with fail
      exact bodyPost_ret (v := .tuple #[S3.sV zS (.slice none 0 0) (.slice none 0 0) (.slice none 0 0), .int .i64 (j : Int), .int .i64 c']) (by simp [results, Tryz.results111, go_sem, zS, r0, r1, r2, r3, r4, r5, r6, r7]) rfl (by rw [Hr.out]; exact ⟨rfl, HB.out⟩)
    | ok s2 m =>
      rw [hr] at hP
      have Hr := Lib.hid hr
      clear hr
      obtain ⟨va2, vb2, ve2, rfl, hS2, hb⟩ := hP
      obtain ⟨Aa2, ca2, rfl⟩ := hS2.a.slice
      obtain ⟨Ab2, cb2, rfl⟩ := hS2.b.slice
      obtain ⟨Ae2, ce2, rfl⟩ := hS2.e.slice
      have hQ := HQ.out.bel hb
      have hq2 := hQ.lt
      obtain ⟨z0, z1, z2, z3, z4, z5, z6, z7, r0, r1, r2, r3, r4, r5, r6, r7, y0, y1, y2, y3, y4, y5, y6, y7⟩ := hQ.facts
      have HB := Lib.hid (nfin (R := NoR) s2 HB9.out HQ.out.lt (fun _ h => h.elim) hS2 hb (.int .i64 s2.kind) (.int .i64 s2.no) (.string (S3.B s2.name)) (.int .i64 s2.typ) (.string (S3.B s2.callee)) (.slice Aa2 s2.args.length ca2) (.slice Ab2 s2.body.length cb2) (.slice Ae2 s2.els.length ce2))
      clear hb hQ HQ HB9 hS2 D
      go_wp2_with fail
      exact bodyPost_ret (v := .tuple #[(S3.sV s2 (.slice Aa2 s2.args.length ca2) (.slice Ab2 s2.body.length cb2) (.slice Ae2 s2.els.length ce2)), .int .i64 (m : Int), .int .i64 0]) (by simp [results, Tryz.results111, go_sem, r0, r1, r2, r3, r4, r5, r6, r7]) rfl (by rw [Hr.out]; exact ⟨_, _, _, rfl, HB.out.1, HB.out.2⟩)
theorem variable6 {w : World} {l : TL} {v : Value} (hT : TokL w w.heap.size v l) (hll : l.length ≤ 1000000) (i : Nat) (hi : i < l.length) :
    Calls Tryz.prog 111 #[v, .int .i64 (i : Int)] w (PostPS w (varS l (i + 1))) := by
  unfold varS
  cases hn : nmTok (tkAt l (i + 1)) with
  | false => rw [if_neg (by simp)]; exact var_noname hT hll i (by omega) hn
  | true =>
    rw [if_pos rfl]
    rcases Nat.lt_or_ge (i + 2) l.length with h2 | h2
    · by_cases h3 : (tkAt l (i + 2)).1 = 3
      · have hk : kwAt l (i + 2) = (tkAt l (i + 2)).2 := by unfold kwAt; rw [if_pos h3]
        rw [show i + 1 + 1 = i + 2 from rfl, hk]
        by_cases h4 : typW (tkAt l (i + 2)).2 = 0
        · rw [if_pos h4]; exact var_word hT hll i hn h2 h3 h4
        · rw [if_neg h4]
          by_cases h5 : sgAt l (i + 3) = [61]
          · rw [if_pos h5]; exact var_val hT hll i hn h2 h3 h4 h5
          · rw [if_neg h5]; exact var_decl hT hll i hn h2 h3 h4 h5
      · have hk : kwAt l (i + 2) = [] := by unfold kwAt; rw [if_neg h3]
        rw [show i + 1 + 1 = i + 2 from rfl, hk, if_pos (by decide)]
        exact var_kind hT hll i hn h2 h3
    · have hk : kwAt l (i + 2) = [] := by unfold kwAt; rw [tk_out h2]; rfl
      rw [show i + 1 + 1 = i + 2 from rfl, hk, if_pos (by decide)]
      exact var_end hT hll i hn h2
end Go.Proofs.YtoldhocdfkndbaaGreatDoor.E6

namespace Go.Proofs.YtoldhocdfkndbaaGreatDoor.E6
open Go Go.RowKit Go.Proofs.YtoldhocdfkndbaaGreatDoor Go.Proofs.YtoldhocdfkndbaaGreatDoor.E5

set_option maxRecDepth 100000 in
set_option maxHeartbeats 8000000 in
theorem br6_bad1 {w : World} {l : TL} {v : Value} (hT : TokL w w.heap.size v l) (hll : l.length ≤ 1000000) (k : Int) (i d : Nat) (hi : i ≤ l.length) (_hd : d ≤ 9223372036854775807) {j : Nat} {c : Int} (hp : parseR l i 0 = .bad j c) :
    Calls Tryz.prog 117 #[S3.sV ⟨k, 0, [], 0, [], [], [], []⟩ (.slice none 0 0) (.slice none 0 0) (.slice none 0 0), v, .int .i64 (i : Int), .int .i64 (d : Int)] w (PostPS w (.bad j c)) := by
  have hq' : (c == 0) = false := beq_eq_false_iff_ne.2 (by rcases parse_code hp with h | h <;> omega)
  obtain ⟨TA, Tc, rfl⟩ := hT.val
  have CP := rparse_calls (tokU hT (BX.start w k).bel) hll i 0 hi (by omega)
  have hX0 := BX.start w k
  have hwin := parseR_within l i 0 hi
  rw [hp] at CP hwin
  simp only [Res.within] at hwin
  have HT := Lib.hid hT
  have HX0 := Lib.hid hX0
  have CP := Lib.hid CP
  clear hT hX0 hp 
  go_enter Tryz.func117, Tryz.ntmps117
  try simp only [List.append_eq, List.cons_append, List.nil_append]
  go_wp2_with fail
  refine CP.out.mono ?_
  rintro E w1 ⟨rfl, hb⟩
  have X1 := Lib.hid ((HX0.out.mv hb).al (S3.eO zE (.slice none 0 0)))
  clear hb CP HX0
  obtain ⟨z0, z1, z2, z3, z4, z5, z6, z7, r0, r1, r2, r3, r4, r5, r6, r7, y0, y1, y2, y3, y4, y5, y6, y7⟩ := X1.out.q.facts
  have hq1 := X1.out.lt
  have HB := Lib.hid (put8_below X1.out.bel (q := w.heap.size + 1) (by omega) (.int .i64 0) (.int .i64 0) (.string ⟨#[]⟩) (.int .i64 0) (.string ⟨#[]⟩) (.slice none 0 0) (.slice none 0 0) (.slice none 0 0))
  go_wp2_with fail
  exact bodyPost_ret (v := .tuple #[S3.sV zS (.slice none 0 0) (.slice none 0 0) (.slice none 0 0), .int .i64 (j : Int), .int .i64 c]) (by simp [results, Tryz.results117, go_sem, zS, r0, r1, r2, r3, r4, r5, r6, r7]) rfl ⟨rfl, HB.out⟩
set_option maxRecDepth 100000 in
set_option maxHeartbeats 8000000 in
theorem br6_bad2 {w : World} {l : TL} {v : Value} (hT : TokL w w.heap.size v l) (hll : l.length ≤ 1000000) (k : Int) (i d : Nat) (hi : i ≤ l.length) (_hd : d ≤ 9223372036854775807) {e : Ex} {n : Nat} (hp : parseR l i 0 = .ok e n) (hB : RBC l v n d) {j : Nat} {c2 : Int} (hbk : blR l n (d + 1) = .bad j c2) :
    Calls Tryz.prog 117 #[S3.sV ⟨k, 0, [], 0, [], [], [], []⟩ (.slice none 0 0) (.slice none 0 0) (.slice none 0 0), v, .int .i64 (i : Int), .int .i64 (d : Int)] w (PostPS w (.bad j c2)) := by
  have hq' : (c2 == 0) = false := beq_eq_false_iff_ne.2 (bl_code hbk)
  obtain ⟨TA, Tc, rfl⟩ := hT.val
  have CP := rparse_calls (tokU hT (BX.start w k).bel) hll i 0 hi (by omega)
  have hX0 := BX.start w k
  have hwin := parseR_within l i 0 hi
  rw [hp] at CP hwin
  simp only [Res.within] at hwin
  have HT := Lib.hid hT
  have HX0 := Lib.hid hX0
  have CP := Lib.hid CP
  clear hT hX0 hp 
  go_enter Tryz.func117, Tryz.ntmps117
  try simp only [List.append_eq, List.cons_append, List.nil_append]
  go_wp2_with fail
  refine CP.out.mono ?_
  rintro E w1 ⟨A, kk, c, rfl, ho, hE, hb⟩
  have hX1 := HX0.out.mv hb
  have hz := hb.size
  rw [S3.sz1, S3.sz1] at hE hz
  have hA := bx_args hX1 ho hE
  have x5 := froz5 hX1.row
  have hp1 : w.heap.size < w1.heap.size := by omega
  obtain ⟨k0, k1, k2, k3, k4, k5, k6, k7⟩ := row8_facts hX1.row
  have CB := hB (((w1.setCell ⟨w.heap.size, 5, none⟩ (.slice (some ⟨w1.heap.size + 1, 0, none⟩) 1 1)).alloc (S3.eO e (.slice A kk c))).alloc (S3.eO e (.slice A kk c))) (tokU HT.out hA.1.bel)
  rw [hbk, show ((min d 20 + 1 : Nat) : Int) = min (d : Int) 20 + 1 by omega] at CB
  have CB := Lib.hid CB
  have HX1 := Lib.hid hA.1
  have HEA := Lib.hid hA.2
  have hz1 : (((w1.setCell ⟨w.heap.size, 5, none⟩ (.slice (some ⟨w1.heap.size + 1, 0, none⟩) 1 1)).alloc (S3.eO e (.slice A kk c))).alloc (S3.eO e (.slice A kk c))).heap.size = w1.heap.size + 1 + 1 := by rw [S3.sz1, S3.sz1]; simp [World.setCell]
  have hm1 : IntKind.i64.wrap (min (d : Int) 20 + 1) = min (d : Int) 20 + 1 := IntWalk.i64_in _ (by omega)
  clear hb hE CP HX0 ho hA hX1
  go_wp2_with fail
  refine CB.out.mono ?_
  rintro E w2 ⟨rfl, hb⟩
  have hX2 := HX1.out.mv hb
  have x6 := froz6 hX2.row
  have HX2 := Lib.hid (hX2.set6 (.slice none 0 0))
  have hp2 := hX2.lt
  have hp20 : w.heap.size < w2.heap.size := by omega
  obtain ⟨j0, j1, j2, j3, j4, j5, j6, j7⟩ := row8_facts hX2.row
  clear hX2 hb CB HX1 HEA k0 k1 k2 k3 k4 k5 k6 k7 x5 hp1 hz1
  obtain ⟨z0, z1, z2, z3, z4, z5, z6, z7, r0, r1, r2, r3, r4, r5, r6, r7, y0, y1, y2, y3, y4, y5, y6, y7⟩ := HX2.out.q.facts
  have hq1 := HX2.out.lt
  have HB := Lib.hid (put8_below HX2.out.bel (q := w.heap.size + 1) (by omega) (.int .i64 0) (.int .i64 0) (.string ⟨#[]⟩) (.int .i64 0) (.string ⟨#[]⟩) (.slice none 0 0) (.slice none 0 0) (.slice none 0 0))
  go_wp2_with fail
  exact bodyPost_ret (v := .tuple #[S3.sV zS (.slice none 0 0) (.slice none 0 0) (.slice none 0 0), .int .i64 (j : Int), .int .i64 c2]) (by simp [results, Tryz.results117, go_sem, zS, r0, r1, r2, r3, r4, r5, r6, r7]) rfl ⟨rfl, HB.out⟩
set_option maxRecDepth 100000 in
set_option maxHeartbeats 8000000 in
theorem br6_wh {w : World} {l : TL} {v : Value} (hT : TokL w w.heap.size v l) (hll : l.length ≤ 1000000) (i d : Nat) (hi : i ≤ l.length) (_hd : d ≤ 9223372036854775807) {e : Ex} {n : Nat} (hp : parseR l i 0 = .ok e n) (hB : RBC l v n d) {bb : List St} {m : Nat} (hbk : blR l n (d + 1) = .ok bb m) :
    Calls Tryz.prog 117 #[S3.sV ⟨10, 0, [], 0, [], [], [], []⟩ (.slice none 0 0) (.slice none 0 0) (.slice none 0 0), v, .int .i64 (i : Int), .int .i64 (d : Int)] w (PostPS w (.ok (sWhile e bb) m)) := by
  obtain ⟨TA, Tc, rfl⟩ := hT.val
  have CP := rparse_calls (tokU hT (BX.start w 10).bel) hll i 0 hi (by omega)
  have hX0 := BX.start w 10
  have hwin := parseR_within l i 0 hi
  rw [hp] at CP hwin
  simp only [Res.within] at hwin
  have HT := Lib.hid hT
  have HX0 := Lib.hid hX0
  have CP := Lib.hid CP
  clear hT hX0 hp 
  go_enter Tryz.func117, Tryz.ntmps117
  try simp only [List.append_eq, List.cons_append, List.nil_append]
  go_wp2_with fail
  refine CP.out.mono ?_
  rintro E w1 ⟨A, kk, c, rfl, ho, hE, hb⟩
  have hX1 := HX0.out.mv hb
  have hz := hb.size
  rw [S3.sz1, S3.sz1] at hE hz
  have hA := bx_args hX1 ho hE
  have x5 := froz5 hX1.row
  have hp1 : w.heap.size < w1.heap.size := by omega
  obtain ⟨k0, k1, k2, k3, k4, k5, k6, k7⟩ := row8_facts hX1.row
  have CB := hB (((w1.setCell ⟨w.heap.size, 5, none⟩ (.slice (some ⟨w1.heap.size + 1, 0, none⟩) 1 1)).alloc (S3.eO e (.slice A kk c))).alloc (S3.eO e (.slice A kk c))) (tokU HT.out hA.1.bel)
  rw [hbk, show ((min d 20 + 1 : Nat) : Int) = min (d : Int) 20 + 1 by omega] at CB
  have CB := Lib.hid CB
  have HX1 := Lib.hid hA.1
  have HEA := Lib.hid hA.2
  have hz1 : (((w1.setCell ⟨w.heap.size, 5, none⟩ (.slice (some ⟨w1.heap.size + 1, 0, none⟩) 1 1)).alloc (S3.eO e (.slice A kk c))).alloc (S3.eO e (.slice A kk c))).heap.size = w1.heap.size + 1 + 1 := by rw [S3.sz1, S3.sz1]; simp [World.setCell]
  have hm1 : IntKind.i64.wrap (min (d : Int) 20 + 1) = min (d : Int) 20 + 1 := IntWalk.i64_in _ (by omega)
  clear hb hE CP HX0 ho hA hX1
  go_wp2_with fail
  refine CB.out.mono ?_
  rintro E w2 ⟨Ab, cb, rfl, hS, hb⟩
  have hX2 := HX1.out.mv hb
  have x6 := froz6 hX2.row
  have HX2 := Lib.hid (hX2.set6 (.slice Ab bb.length cb))
  have HEA2 := Lib.hid (bk_erS (o := 6) (u := .slice Ab bb.length cb) (bk_er HEA.out hb))
  have HSB2 := Lib.hid (bk_srS (o := 6) (u := .slice Ab bb.length cb) (bk_sr0 HX1.out hS))
  have hp2 := hX2.lt
  have hp20 : w.heap.size < w2.heap.size := by omega
  obtain ⟨j0, j1, j2, j3, j4, j5, j6, j7⟩ := row8_facts hX2.row
  clear hX2 hb hS CB HX1 HEA k0 k1 k2 k3 k4 k5 k6 k7 x5 hp1 hz1
  obtain ⟨z0, z1, z2, z3, z4, z5, z6, z7, r0, r1, r2, r3, r4, r5, r6, r7, y0, y1, y2, y3, y4, y5, y6, y7⟩ := HX2.out.q.facts
  obtain ⟨i0, i1, i2, i3, i4, i5, i6, i7⟩ := row8_facts HX2.out.row
  have hq1 := HX2.out.lt
  have HB := Lib.hid (bx_fin HX2.out (s := sWhile e bb) ⟨⟨ok_i (k := 10) rfl, ok_i (k := 0) rfl, ok_i (k := 0) rfl, by simp, by simp⟩, HEA2.out, HSB2.out, S3.SR.nil none 0⟩ (.int .i64 10) (.int .i64 0) (.string ⟨#[]⟩) (.int .i64 0) (.string ⟨#[]⟩) (.slice (some ⟨w1.heap.size + 1, 0, none⟩) 1 1) (.slice Ab bb.length cb) (.slice none 0 0))
  go_wp2_with fail
  exact bodyPost_ret (v := .tuple #[S3.sV (sWhile e bb) (.slice (some ⟨w1.heap.size + 1, 0, none⟩) 1 1) (.slice Ab bb.length cb) (.slice none 0 0), .int .i64 (m : Int), .int .i64 0]) (by simp [results, Tryz.results117, go_sem, r0, r1, r2, r3, r4, r5, r6, r7]) rfl ⟨_, _, _, rfl, HB.out.1, HB.out.2⟩
set_option maxRecDepth 100000 in
set_option maxHeartbeats 8000000 in
theorem br6_one {w : World} {l : TL} {v : Value} (hT : TokL w w.heap.size v l) (hll : l.length ≤ 1000000) (i d : Nat) (hi : i ≤ l.length) (_hd : d ≤ 9223372036854775807) {e : Ex} {n : Nat} (hp : parseR l i 0 = .ok e n) (hB : RBC l v n d) {bb : List St} {m : Nat} (hbk : blR l n (d + 1) = .ok bb m) (hk : kwAt l m ≠ wElse) :
    Calls Tryz.prog 117 #[S3.sV ⟨9, 0, [], 0, [], [], [], []⟩ (.slice none 0 0) (.slice none 0 0) (.slice none 0 0), v, .int .i64 (i : Int), .int .i64 (d : Int)] w (PostPS w (.ok (sIf e bb []) m)) := by
  have qk : (kwAt l m == wElse) = false := beq_eq_false_iff_ne.2 hk
  obtain ⟨TA, Tc, rfl⟩ := hT.val
  have CP := rparse_calls (tokU hT (BX.start w 9).bel) hll i 0 hi (by omega)
  have hX0 := BX.start w 9
  have hwin := parseR_within l i 0 hi
  rw [hp] at CP hwin
  simp only [Res.within] at hwin
  have HT := Lib.hid hT
  have HX0 := Lib.hid hX0
  have CP := Lib.hid CP
  clear hT hX0 hp hk
  go_enter Tryz.func117, Tryz.ntmps117
  try simp only [List.append_eq, List.cons_append, List.nil_append]
  go_wp2_with fail
  refine CP.out.mono ?_
  rintro E w1 ⟨A, kk, c, rfl, ho, hE, hb⟩
  have hX1 := HX0.out.mv hb
  have hz := hb.size
  rw [S3.sz1, S3.sz1] at hE hz
  have hA := bx_args hX1 ho hE
  have x5 := froz5 hX1.row
  have hp1 : w.heap.size < w1.heap.size := by omega
  obtain ⟨k0, k1, k2, k3, k4, k5, k6, k7⟩ := row8_facts hX1.row
  have CB := hB (((w1.setCell ⟨w.heap.size, 5, none⟩ (.slice (some ⟨w1.heap.size + 1, 0, none⟩) 1 1)).alloc (S3.eO e (.slice A kk c))).alloc (S3.eO e (.slice A kk c))) (tokU HT.out hA.1.bel)
  rw [hbk, show ((min d 20 + 1 : Nat) : Int) = min (d : Int) 20 + 1 by omega] at CB
  have CB := Lib.hid CB
  have HX1 := Lib.hid hA.1
  have HEA := Lib.hid hA.2
  have hz1 : (((w1.setCell ⟨w.heap.size, 5, none⟩ (.slice (some ⟨w1.heap.size + 1, 0, none⟩) 1 1)).alloc (S3.eO e (.slice A kk c))).alloc (S3.eO e (.slice A kk c))).heap.size = w1.heap.size + 1 + 1 := by rw [S3.sz1, S3.sz1]; simp [World.setCell]
  have hm1 : IntKind.i64.wrap (min (d : Int) 20 + 1) = min (d : Int) 20 + 1 := IntWalk.i64_in _ (by omega)
  clear hb hE CP HX0 ho hA hX1
  go_wp2_with fail
  refine CB.out.mono ?_
  rintro E w2 ⟨Ab, cb, rfl, hS, hb⟩
  have hX2 := HX1.out.mv hb
  have x6 := froz6 hX2.row
  have HX2 := Lib.hid (hX2.set6 (.slice Ab bb.length cb))
  have HEA2 := Lib.hid (bk_erS (o := 6) (u := .slice Ab bb.length cb) (bk_er HEA.out hb))
  have HSB2 := Lib.hid (bk_srS (o := 6) (u := .slice Ab bb.length cb) (bk_sr0 HX1.out hS))
  have hp2 := hX2.lt
  have hp20 : w.heap.size < w2.heap.size := by omega
  obtain ⟨j0, j1, j2, j3, j4, j5, j6, j7⟩ := row8_facts hX2.row
  clear hX2 hb hS CB HX1 HEA k0 k1 k2 k3 k4 k5 k6 k7 x5 hp1 hz1
  obtain ⟨i0, i1, i2, i3, i4, i5, i6, i7⟩ := row8_facts HX2.out.row
  go_wp2_with fail
  refine (kw6 (tokU HT.out HX2.out.bel) qk (by first | decide | simp) rfl).mono ?_
  rintro E w3 ⟨rfl, hb⟩
  have HX3 := Lib.hid (HX2.out.mv hb)
  have HEA3 := Lib.hid (bk_er HEA2.out hb)
  have HSB3 := Lib.hid (bk_sr HSB2.out hb)
  clear hb HX2 HEA2 HSB2 j0 j1 j2 j3 j4 j5 j6 j7 i0 i1 i2 i3 i4 i5 i6 i7 x6 hp2 hp20
  obtain ⟨z0, z1, z2, z3, z4, z5, z6, z7, r0, r1, r2, r3, r4, r5, r6, r7, y0, y1, y2, y3, y4, y5, y6, y7⟩ := HX3.out.q.facts
  obtain ⟨i0, i1, i2, i3, i4, i5, i6, i7⟩ := row8_facts HX3.out.row
  have hq1 := HX3.out.lt
  have HB := Lib.hid (bx_fin HX3.out (s := sIf e bb []) ⟨⟨ok_i (k := 9) rfl, ok_i (k := 0) rfl, ok_i (k := 0) rfl, by simp, by simp⟩, HEA3.out, HSB3.out, S3.SR.nil none 0⟩ (.int .i64 9) (.int .i64 0) (.string ⟨#[]⟩) (.int .i64 0) (.string ⟨#[]⟩) (.slice (some ⟨w1.heap.size + 1, 0, none⟩) 1 1) (.slice Ab bb.length cb) (.slice none 0 0))
  go_wp2_with fail
  exact bodyPost_ret (v := .tuple #[S3.sV (sIf e bb []) (.slice (some ⟨w1.heap.size + 1, 0, none⟩) 1 1) (.slice Ab bb.length cb) (.slice none 0 0), .int .i64 (m : Int), .int .i64 0]) (by simp [results, Tryz.results117, go_sem, r0, r1, r2, r3, r4, r5, r6, r7]) rfl ⟨_, _, _, rfl, HB.out.1, HB.out.2⟩
end Go.Proofs.YtoldhocdfkndbaaGreatDoor.E6

namespace Go.Proofs.YtoldhocdfkndbaaGreatDoor.E6
open Go Go.RowKit Go.Proofs.YtoldhocdfkndbaaGreatDoor Go.Proofs.YtoldhocdfkndbaaGreatDoor.E5

set_option maxRecDepth 100000 in
set_option maxHeartbeats 8000000 in
theorem br6_bad3 {w : World} {l : TL} {v : Value} (hT : TokL w w.heap.size v l) (hll : l.length ≤ 1000000) (i d : Nat) (hi : i ≤ l.length) (_hd : d ≤ 9223372036854775807) {e : Ex} {n : Nat} (hp : parseR l i 0 = .ok e n) (hB : RBC l v n d) {bb : List St} {m : Nat} (hbk : blR l n (d + 1) = .ok bb m) (hk : kwAt l m = wElse) (hB2 : RBC l v (m + 1) d) {j : Nat} {c2 : Int} (hbk2 : blR l (m + 1) (d + 1) = .bad j c2) :
    Calls Tryz.prog 117 #[S3.sV ⟨9, 0, [], 0, [], [], [], []⟩ (.slice none 0 0) (.slice none 0 0) (.slice none 0 0), v, .int .i64 (i : Int), .int .i64 (d : Int)] w (PostPS w (.bad j c2)) := by
  have hq' : (c2 == 0) = false := beq_eq_false_iff_ne.2 (bl_code hbk2)
  have qk : (kwAt l m == wElse) = true := by rw [hk]; rfl
  have hml := kwAt_lt hk (by decide)
  have hm2 : IntKind.i64.wrap ((m : Int) + 1) = (m : Int) + 1 := IntWalk.i64_in _ (by omega)
  obtain ⟨TA, Tc, rfl⟩ := hT.val
  have CP := rparse_calls (tokU hT (BX.start w 9).bel) hll i 0 hi (by omega)
  have hX0 := BX.start w 9
  have hwin := parseR_within l i 0 hi
  rw [hp] at CP hwin
  simp only [Res.within] at hwin
  have HT := Lib.hid hT
  have HX0 := Lib.hid hX0
  have CP := Lib.hid CP
  clear hT hX0 hp hk
  go_enter Tryz.func117, Tryz.ntmps117
  try simp only [List.append_eq, List.cons_append, List.nil_append]
  go_wp2_with fail
  refine CP.out.mono ?_
  rintro E w1 ⟨A, kk, c, rfl, ho, hE, hb⟩
  have hX1 := HX0.out.mv hb
  have hz := hb.size
  rw [S3.sz1, S3.sz1] at hE hz
  have hA := bx_args hX1 ho hE
  have x5 := froz5 hX1.row
  have hp1 : w.heap.size < w1.heap.size := by omega
  obtain ⟨k0, k1, k2, k3, k4, k5, k6, k7⟩ := row8_facts hX1.row
  have CB := hB (((w1.setCell ⟨w.heap.size, 5, none⟩ (.slice (some ⟨w1.heap.size + 1, 0, none⟩) 1 1)).alloc (S3.eO e (.slice A kk c))).alloc (S3.eO e (.slice A kk c))) (tokU HT.out hA.1.bel)
  rw [hbk, show ((min d 20 + 1 : Nat) : Int) = min (d : Int) 20 + 1 by omega] at CB
  have CB := Lib.hid CB
  have HX1 := Lib.hid hA.1
  have HEA := Lib.hid hA.2
  have hz1 : (((w1.setCell ⟨w.heap.size, 5, none⟩ (.slice (some ⟨w1.heap.size + 1, 0, none⟩) 1 1)).alloc (S3.eO e (.slice A kk c))).alloc (S3.eO e (.slice A kk c))).heap.size = w1.heap.size + 1 + 1 := by rw [S3.sz1, S3.sz1]; simp [World.setCell]
  have hm1 : IntKind.i64.wrap (min (d : Int) 20 + 1) = min (d : Int) 20 + 1 := IntWalk.i64_in _ (by omega)
  clear hb hE CP HX0 ho hA hX1
  go_wp2_with fail
  refine CB.out.mono ?_
  rintro E w2 ⟨Ab, cb, rfl, hS, hb⟩
  have hX2 := HX1.out.mv hb
  have x6 := froz6 hX2.row
  have HX2 := Lib.hid (hX2.set6 (.slice Ab bb.length cb))
  have HEA2 := Lib.hid (bk_erS (o := 6) (u := .slice Ab bb.length cb) (bk_er HEA.out hb))
  have HSB2 := Lib.hid (bk_srS (o := 6) (u := .slice Ab bb.length cb) (bk_sr0 HX1.out hS))
  have hp2 := hX2.lt
  have hp20 : w.heap.size < w2.heap.size := by omega
  obtain ⟨j0, j1, j2, j3, j4, j5, j6, j7⟩ := row8_facts hX2.row
  clear hX2 hb hS CB HX1 HEA k0 k1 k2 k3 k4 k5 k6 k7 x5 hp1 hz1
  obtain ⟨i0, i1, i2, i3, i4, i5, i6, i7⟩ := row8_facts HX2.out.row
  go_wp2_with fail
  refine (kw6 (tokU HT.out HX2.out.bel) qk (by first | decide | simp) rfl).mono ?_
  rintro E w3 ⟨rfl, hb⟩
  have HX3 := Lib.hid (HX2.out.mv hb)
  have HEA3 := Lib.hid (bk_er HEA2.out hb)
  have HSB3 := Lib.hid (bk_sr HSB2.out hb)
  clear hb HX2 HEA2 HSB2 j0 j1 j2 j3 j4 j5 j6 j7 i0 i1 i2 i3 i4 i5 i6 i7 x6 hp2 hp20
  have CB2 := hB2 w3 (tokU HT.out HX3.out.bel)
  rw [hbk2, show ((min d 20 + 1 : Nat) : Int) = min (d : Int) 20 + 1 by omega, show ((m + 1 : Nat) : Int) = (m : Int) + 1 by omega] at CB2
  have CB2 := Lib.hid CB2
  go_wp2_with fail
  refine CB2.out.mono ?_
  rintro E w4 ⟨rfl, hb⟩
  have hX4 := HX3.out.mv hb
  have x7 := froz7 hX4.row
  have HX4 := Lib.hid (hX4.set7 (.slice none 0 0))
  have hp4 := hX4.lt
  have hp40 : w.heap.size < w4.heap.size := by omega
  obtain ⟨j0, j1, j2, j3, j4, j5, j6, j7⟩ := row8_facts hX4.row
  clear hX4 hb CB2 HX3 HEA3 HSB3
  obtain ⟨z0, z1, z2, z3, z4, z5, z6, z7, r0, r1, r2, r3, r4, r5, r6, r7, y0, y1, y2, y3, y4, y5, y6, y7⟩ := HX4.out.q.facts
  have hq1 := HX4.out.lt
  have HB := Lib.hid (put8_below HX4.out.bel (q := w.heap.size + 1) (by omega) (.int .i64 0) (.int .i64 0) (.string ⟨#[]⟩) (.int .i64 0) (.string ⟨#[]⟩) (.slice none 0 0) (.slice none 0 0) (.slice none 0 0))
  go_wp2_with fail
  exact bodyPost_ret (v := .tuple #[S3.sV zS (.slice none 0 0) (.slice none 0 0) (.slice none 0 0), .int .i64 (j : Int), .int .i64 c2]) (by simp [results, Tryz.results117, go_sem, zS, r0, r1, r2, r3, r4, r5, r6, r7]) rfl ⟨rfl, HB.out⟩
set_option maxRecDepth 100000 in
set_option maxHeartbeats 8000000 in
theorem br6_two {w : World} {l : TL} {v : Value} (hT : TokL w w.heap.size v l) (hll : l.length ≤ 1000000) (i d : Nat) (hi : i ≤ l.length) (_hd : d ≤ 9223372036854775807) {e : Ex} {n : Nat} (hp : parseR l i 0 = .ok e n) (hB : RBC l v n d) {bb : List St} {m : Nat} (hbk : blR l n (d + 1) = .ok bb m) (hk : kwAt l m = wElse) (hB2 : RBC l v (m + 1) d) {be : List St} {q : Nat} (hbk2 : blR l (m + 1) (d + 1) = .ok be q) :
    Calls Tryz.prog 117 #[S3.sV ⟨9, 0, [], 0, [], [], [], []⟩ (.slice none 0 0) (.slice none 0 0) (.slice none 0 0), v, .int .i64 (i : Int), .int .i64 (d : Int)] w (PostPS w (.ok (sIf e bb be) q)) := by
  have qk : (kwAt l m == wElse) = true := by rw [hk]; rfl
  have hml := kwAt_lt hk (by decide)
  have hm2 : IntKind.i64.wrap ((m : Int) + 1) = (m : Int) + 1 := IntWalk.i64_in _ (by omega)
  obtain ⟨TA, Tc, rfl⟩ := hT.val
  have CP := rparse_calls (tokU hT (BX.start w 9).bel) hll i 0 hi (by omega)
  have hX0 := BX.start w 9
  have hwin := parseR_within l i 0 hi
  rw [hp] at CP hwin
  simp only [Res.within] at hwin
  have HT := Lib.hid hT
  have HX0 := Lib.hid hX0
  have CP := Lib.hid CP
  clear hT hX0 hp hk
  go_enter Tryz.func117, Tryz.ntmps117
  try simp only [List.append_eq, List.cons_append, List.nil_append]
  go_wp2_with fail
  refine CP.out.mono ?_
  rintro E w1 ⟨A, kk, c, rfl, ho, hE, hb⟩
  have hX1 := HX0.out.mv hb
  have hz := hb.size
  rw [S3.sz1, S3.sz1] at hE hz
  have hA := bx_args hX1 ho hE
  have x5 := froz5 hX1.row
  have hp1 : w.heap.size < w1.heap.size := by omega
  obtain ⟨k0, k1, k2, k3, k4, k5, k6, k7⟩ := row8_facts hX1.row
  have CB := hB (((w1.setCell ⟨w.heap.size, 5, none⟩ (.slice (some ⟨w1.heap.size + 1, 0, none⟩) 1 1)).alloc (S3.eO e (.slice A kk c))).alloc (S3.eO e (.slice A kk c))) (tokU HT.out hA.1.bel)
  rw [hbk, show ((min d 20 + 1 : Nat) : Int) = min (d : Int) 20 + 1 by omega] at CB
  have CB := Lib.hid CB
  have HX1 := Lib.hid hA.1
  have HEA := Lib.hid hA.2
  have hz1 : (((w1.setCell ⟨w.heap.size, 5, none⟩ (.slice (some ⟨w1.heap.size + 1, 0, none⟩) 1 1)).alloc (S3.eO e (.slice A kk c))).alloc (S3.eO e (.slice A kk c))).heap.size = w1.heap.size + 1 + 1 := by rw [S3.sz1, S3.sz1]; simp [World.setCell]
  have hm1 : IntKind.i64.wrap (min (d : Int) 20 + 1) = min (d : Int) 20 + 1 := IntWalk.i64_in _ (by omega)
  clear hb hE CP HX0 ho hA hX1
  go_wp2_with fail
  refine CB.out.mono ?_
  rintro E w2 ⟨Ab, cb, rfl, hS, hb⟩
  have hX2 := HX1.out.mv hb
  have x6 := froz6 hX2.row
  have HX2 := Lib.hid (hX2.set6 (.slice Ab bb.length cb))
  have HEA2 := Lib.hid (bk_erS (o := 6) (u := .slice Ab bb.length cb) (bk_er HEA.out hb))
  have HSB2 := Lib.hid (bk_srS (o := 6) (u := .slice Ab bb.length cb) (bk_sr0 HX1.out hS))
  have hp2 := hX2.lt
  have hp20 : w.heap.size < w2.heap.size := by omega
  obtain ⟨j0, j1, j2, j3, j4, j5, j6, j7⟩ := row8_facts hX2.row
  clear hX2 hb hS CB HX1 HEA k0 k1 k2 k3 k4 k5 k6 k7 x5 hp1 hz1
  obtain ⟨i0, i1, i2, i3, i4, i5, i6, i7⟩ := row8_facts HX2.out.row
  go_wp2_with fail
  refine (kw6 (tokU HT.out HX2.out.bel) qk (by first | decide | simp) rfl).mono ?_
  rintro E w3 ⟨rfl, hb⟩
  have HX3 := Lib.hid (HX2.out.mv hb)
  have HEA3 := Lib.hid (bk_er HEA2.out hb)
  have HSB3 := Lib.hid (bk_sr HSB2.out hb)
  clear hb HX2 HEA2 HSB2 j0 j1 j2 j3 j4 j5 j6 j7 i0 i1 i2 i3 i4 i5 i6 i7 x6 hp2 hp20
  have CB2 := hB2 w3 (tokU HT.out HX3.out.bel)
  rw [hbk2, show ((min d 20 + 1 : Nat) : Int) = min (d : Int) 20 + 1 by omega, show ((m + 1 : Nat) : Int) = (m : Int) + 1 by omega] at CB2
  have CB2 := Lib.hid CB2
  go_wp2_with fail
  refine CB2.out.mono ?_
  rintro E w4 ⟨Ae, ce, rfl, hS, hb⟩
  have hX4 := HX3.out.mv hb
  have x7 := froz7 hX4.row
  have HX4 := Lib.hid (hX4.set7 (.slice Ae be.length ce))
  have HEA4 := Lib.hid (bk_erS (o := 7) (u := .slice Ae be.length ce) (bk_er HEA3.out hb))
  have HSB4 := Lib.hid (bk_srS (o := 7) (u := .slice Ae be.length ce) (bk_sr HSB3.out hb))
  have HSE4 := Lib.hid (bk_srS (o := 7) (u := .slice Ae be.length ce) (bk_sr0 HX3.out hS))
  have hp4 := hX4.lt
  have hp40 : w.heap.size < w4.heap.size := by omega
  obtain ⟨j0, j1, j2, j3, j4, j5, j6, j7⟩ := row8_facts hX4.row
  clear hX4 hb hS CB2 HX3 HEA3 HSB3
  obtain ⟨z0, z1, z2, z3, z4, z5, z6, z7, r0, r1, r2, r3, r4, r5, r6, r7, y0, y1, y2, y3, y4, y5, y6, y7⟩ := HX4.out.q.facts
  obtain ⟨i0, i1, i2, i3, i4, i5, i6, i7⟩ := row8_facts HX4.out.row
  have hq1 := HX4.out.lt
  have HB := Lib.hid (bx_fin HX4.out (s := sIf e bb be) ⟨⟨ok_i (k := 9) rfl, ok_i (k := 0) rfl, ok_i (k := 0) rfl, by simp, by simp⟩, HEA4.out, HSB4.out, HSE4.out⟩ (.int .i64 9) (.int .i64 0) (.string ⟨#[]⟩) (.int .i64 0) (.string ⟨#[]⟩) (.slice (some ⟨w1.heap.size + 1, 0, none⟩) 1 1) (.slice Ab bb.length cb) (.slice Ae be.length ce))
  go_wp2_with fail
  exact bodyPost_ret (v := .tuple #[S3.sV (sIf e bb be) (.slice (some ⟨w1.heap.size + 1, 0, none⟩) 1 1) (.slice Ab bb.length cb) (.slice Ae be.length ce), .int .i64 (q : Int), .int .i64 0]) (by simp [results, Tryz.results117, go_sem, r0, r1, r2, r3, r4, r5, r6, r7]) rfl ⟨_, _, _, rfl, HB.out.1, HB.out.2⟩
theorem branches_wh {w : World} {l : TL} {v : Value} (hT : TokL w w.heap.size v l) (hll : l.length ≤ 1000000) (i d : Nat) (hi : i ≤ l.length) (hd : d ≤ 9223372036854775807) (hB : ∀ n, i < n → n ≤ l.length → RBC l v n d) :
    Calls Tryz.prog 117 #[S3.sV ⟨10, 0, [], 0, [], [], [], []⟩ (.slice none 0 0) (.slice none 0 0) (.slice none 0 0), v, .int .i64 (i : Int), .int .i64 (d : Int)] w (PostPS w (whS l (fun n => blR l n (d + 1)) i)) := by
  unfold whS
  have hwin := parseR_within l i 0 hi
  cases hp : parseR l i 0 with
  | bad j c => exact br6_bad1 hT hll 10 i d hi hd hp
  | ok e n =>
    rw [hp] at hwin
    simp only [Res.within] at hwin
    simp only
    have hb := hB n hwin.1 hwin.2
    cases hbk : blR l n (d + 1) with
    | bad j c => exact br6_bad2 hT hll 10 i d hi hd hp hb hbk
    | ok b m => exact br6_wh hT hll i d hi hd hp hb hbk
theorem branches_if {w : World} {l : TL} {v : Value} (hT : TokL w w.heap.size v l) (hll : l.length ≤ 1000000) (i d : Nat) (hi : i ≤ l.length) (hd : d ≤ 9223372036854775807) (hB : ∀ n, i < n → n ≤ l.length → RBC l v n d) :
    Calls Tryz.prog 117 #[S3.sV ⟨9, 0, [], 0, [], [], [], []⟩ (.slice none 0 0) (.slice none 0 0) (.slice none 0 0), v, .int .i64 (i : Int), .int .i64 (d : Int)] w (PostPS w (ifS l (fun n => blR l n (d + 1)) i)) := by
  unfold ifS
  have hwin := parseR_within l i 0 hi
  cases hp : parseR l i 0 with
  | bad j c => exact br6_bad1 hT hll 9 i d hi hd hp
  | ok e n =>
    rw [hp] at hwin
    simp only [Res.within] at hwin
    simp only
    have hb := hB n hwin.1 hwin.2
    have hbw := blR_within l n (d + 1) hwin.2
    cases hbk : blR l n (d + 1) with
    | bad j c => exact br6_bad2 hT hll 9 i d hi hd hp hb hbk
    | ok b m =>
      rw [hbk] at hbw
      simp only [RBl.within] at hbw
      simp only
      by_cases hk : kwAt l m = wElse
      · rw [if_pos hk]
        have hml := kwAt_lt hk (by decide)
        have hb2 := hB (m + 1) (by omega) hml
        cases hbk2 : blR l (m + 1) (d + 1) with
        | bad j c => exact br6_bad3 hT hll i d hi hd hp hb hbk hk hb2 hbk2
        | ok b' q => exact br6_two hT hll i d hi hd hp hb hbk hk hb2 hbk2
      · rw [if_neg hk]; exact br6_one hT hll i d hi hd hp hb hbk hk
end Go.Proofs.YtoldhocdfkndbaaGreatDoor.E6

namespace Go.Proofs.YtoldhocdfkndbaaGreatDoor.E6
open Go Go.RowKit Go.Proofs.YtoldhocdfkndbaaGreatDoor Go.Proofs.YtoldhocdfkndbaaGreatDoor.E5

theorem stmt6 {w : World} {l : TL} {v : Value} (hT : TokL w w.heap.size v l) (hll : l.length ≤ 1000000) (i d : Nat) (hi : i ≤ l.length) (hd : d ≤ 9223372036854775807) (hB : ∀ n, i < n → n ≤ l.length → RBC l v n d) :
    Calls Tryz.prog 81 #[v, .int .i64 (i : Int), .int .i64 (d : Int)] w (PostPS w (stR l i d)) := by
  rw [stR_eq l i d hi]
  unfold oneS
  by_cases k0 : kwAt l i = wVar
  · rw [if_pos k0]
    have := kwAt_lt k0 (by decide)
    exact stmt_var hT hll i d k0 fun W hb => variable6 (tokU hT hb) hll i this
  rw [if_neg k0]
  by_cases k1 : kwAt l i = wRead
  · rw [if_pos k1]
    unfold readS
    cases hn : nmTok (tkAt l (i + 1)) with
    | true => rw [if_pos rfl]; exact stmt_read hT hll i d k1 hn
    | false => rw [if_neg (by simp)]; exact stmt_read0 hT hll i d k1 hn
  rw [if_neg k1]
  by_cases k2 : kwAt l i = wPrint
  · rw [if_pos k2]; exact stmt_print hT hll i d k2
  rw [if_neg k2]
  by_cases k3 : kwAt l i = wReturn
  · rw [if_pos k3]
    unfold retS
    by_cases h : sgAt l (i + 1) = [59]
    · rw [if_pos h]; exact stmt_ret0 hT hll i d k3 h
    · rw [if_neg h]; exact stmt_ret hT hll i d k3 h
  rw [if_neg k3]
  by_cases k4 : kwAt l i = wIf
  · rw [if_pos k4]
    have := kwAt_lt k4 (by decide)
    exact stmt_if hT hll i d k4 fun W hb => branches_if (tokU hT hb) hll (i + 1) d this hd fun n h1 h2 => hB n (by omega) h2
  rw [if_neg k4]
  by_cases k5 : kwAt l i = wWhile
  · rw [if_pos k5]
    have := kwAt_lt k5 (by decide)
    exact stmt_while hT hll i d k5 fun W hb => branches_wh (tokU hT hb) hll (i + 1) d this hd fun n h1 h2 => hB n (by omega) h2
  rw [if_neg k5]
  cases hn : nmTok (tkAt l i) with
  | true => exact stmt_named hT hll i d hn
  | false =>
    have e : namS l i = .bad i 7 := by unfold namS; rw [hn]; rfl
    rw [e]
    exact stmt_wrong hT hll i d hi hn k0 k1 k2 k3 k4 k5
/-- Statements and blocks, by what is left of the tokens. -/
theorem all6 (l : TL) (v : Value) (hll : l.length ≤ 1000000) : ∀ k i, i ≤ l.length → l.length - i ≤ k →
    (∀ d, d ≤ 9223372036854775807 → RSC l v i d) ∧ (∀ (d : Nat), ∀ W, TokL W W.heap.size v l → Calls Tryz.prog 84 #[v, .int .i64 (i : Int), .int .i64 (d : Int)] W (PostPB W (blR l i d))) := by
  intro k
  induction k using Nat.strongRecOn with
  | ind k ih =>
    intro i hi hk
    have hup : ∀ n, i < n → n ≤ l.length → (∀ d, d ≤ 9223372036854775807 → RSC l v n d) ∧ (∀ (d : Nat), ∀ W, TokL W W.heap.size v l → Calls Tryz.prog 84 #[v, .int .i64 (n : Int), .int .i64 (d : Int)] W (PostPB W (blR l n d))) := fun n h1 h2 => ih (l.length - n) (by omega) n h2 (Nat.le_refl _)
    refine ⟨fun d hd W hW => ?_, fun d W hW => ?_⟩
    · exact stmt6 hW hll i d hi hd fun n h1 h2 W' hW' => by rw [blR_min l n d h2]; exact (hup n h1 h2).2 _ W' hW'
    · rw [blR_eq l i d hi]
      by_cases hs : sgAt l i = [123]
      · rw [if_pos hs]
        by_cases h20 : 20 < d
        · rw [if_pos h20]; exact block_deep hW i d hs (by omega)
        · rw [if_neg h20]; exact block_ok hW hll i d hs (by omega) (fun n h1 h2 => (hup n h1 h2).1 d (by omega)) _ rfl
      · rw [if_neg hs]; exact block_no hW i d hs
set_option maxRecDepth 100000 in
set_option maxHeartbeats 4000000 in
theorem rsparse_range {w : World} {n c : Nat} {A : Option Addr} (i d : Int) (h : i < 0 ∨ (n : Int) < i ∨ d < 1) :
    Calls Tryz.prog 38 #[.slice A n c, .int .i64 i, .int .i64 d] w fun E w' => E = .returned (.tuple #[S3.sV zS (.slice none 0 0) (.slice none 0 0) (.slice none 0 0), .int .i64 0, .int .i64 3]) ∧ Below w.heap.size w w' := by
  have C := Lib.hid (fun W => outside6 (w := W) (c := c) (A := A) i d (decide_eq_true h))
  clear h
  go_enter Tryz.func38, Tryz.ntmps38
  go_wp2_with fail
  refine (C.out _).mono ?_
  rintro E w1 ⟨rfl, hb⟩
  obtain ⟨hQ, hbw⟩ := box1 w hb
  have hq1 := hQ.lt
  obtain ⟨z0, z1, z2, z3, z4, z5, z6, z7, r0, r1, r2, r3, r4, r5, r6, r7, y0, y1, y2, y3, y4, y5, y6, y7⟩ := hQ.facts
  have HB := Lib.hid (put8_below hbw (q := w.heap.size) (Nat.le_refl _) (.int .i64 0) (.int .i64 0) (.string ⟨#[]⟩) (.int .i64 0) (.string ⟨#[]⟩) (.slice none 0 0) (.slice none 0 0) (.slice none 0 0))
  clear hb hQ hbw C
  go_wp2_with fail
  exact bodyPost_ret (v := .tuple #[S3.sV zS (.slice none 0 0) (.slice none 0 0) (.slice none 0 0), .int .i64 0, .int .i64 3]) (by simp [results, Tryz.results38, go_sem, zS, r0, r1, r2, r3, r4, r5, r6, r7]) rfl ⟨rfl, HB.out⟩
set_option maxRecDepth 100000 in
set_option maxHeartbeats 4000000 in
theorem rsblock_range {w : World} {n c : Nat} {A : Option Addr} (i d : Int) (h : i < 0 ∨ (n : Int) < i ∨ d < 1) :
    Calls Tryz.prog 41 #[.slice A n c, .int .i64 i, .int .i64 d] w fun E w' => E = .returned (.tuple #[.slice none 0 0, .int .i64 0, .int .i64 3]) ∧ Below w.heap.size w w' := by
  have C := Lib.hid (fun W => outside6 (w := W) (c := c) (A := A) i d (decide_eq_true h))
  clear h
  go_enter Tryz.func41, Tryz.ntmps41
  go_wp2_with fail
  refine (C.out _).mono ?_
  rintro E w1 ⟨rfl, hb⟩
  have HB := Lib.hid hb
  clear hb C
  go_wp2_with fail
  go_ret3
  exact ⟨rfl, HB.out⟩
set_option maxRecDepth 100000 in
set_option maxHeartbeats 4000000 in
theorem rsparse_calls {w : World} {l : TL} {v : Value} (hT : TokL w w.heap.size v l) (hll : l.length ≤ 1000000) (i d : Nat) (hi : i ≤ l.length) (h1 : 1 ≤ d) (hd : d ≤ 9223372036854775807) :
    Calls Tryz.prog 38 #[v, .int .i64 (i : Int), .int .i64 (d : Int)] w (PostPS w (stR l i d)) := by
  have CS := Lib.hid ((all6 l v hll _ i hi (Nat.le_refl _)).1 d hd)
  obtain ⟨TA, Tc, rfl⟩ := hT.val
  have C := Lib.hid (fun W => outside6 (w := W) (n := l.length) (c := Tc) (A := TA) (i : Int) (d : Int) (b := false) (decide_eq_false (by omega)))
  have HT := Lib.hid hT
  clear hT
  go_enter Tryz.func38, Tryz.ntmps38
  go_wp2_with fail
  refine (C.out _).mono ?_
  rintro E w1 ⟨rfl, hb⟩
  obtain ⟨hQ, hbw⟩ := box1 w hb
  have D := Lib.hid ((CS.out w1 (tokU HT.out hbw)).mono fun _ _ h => postZ_of h)
  have HQ := Lib.hid hQ
  have HB9 := Lib.hid hbw
  clear hQ hbw HT hb C CS
  go_wp2_with fail
  refine D.out.mono ?_
  intro E w10 hP
  cases hr : stR l i d with
  | bad j c' =>
    rw [hr] at hP
    have Hr := Lib.hid hr
    clear hr
    obtain ⟨rfl, hb⟩ := hP
    have hQ := HQ.out.bel hb
    have hq2 := hQ.lt
    obtain ⟨z0, z1, z2, z3, z4, z5, z6, z7, r0, r1, r2, r3, r4, r5, r6, r7, y0, y1, y2, y3, y4, y5, y6, y7⟩ := hQ.facts
    have HB := Lib.hid (put8_below (after HB9.out hb) (q := w.heap.size) (Nat.le_refl _) (.int .i64 0) (.int .i64 0) (.string ⟨#[]⟩) (.int .i64 0) (.string ⟨#[]⟩) (.slice none 0 0) (.slice none 0 0) (.slice none 0 0))
    clear hb hQ HQ HB9 D
    go_wp2_with fail
    exact bodyPost_ret (v := .tuple #[S3.sV zS (.slice none 0 0) (.slice none 0 0) (.slice none 0 0), .int .i64 (j : Int), .int .i64 c']) (by simp [results, Tryz.results38, go_sem, zS, r0, r1, r2, r3, r4, r5, r6, r7]) rfl (by rw [Hr.out]; exact ⟨rfl, HB.out⟩)
  | ok s2 m =>
    rw [hr] at hP
    have Hr := Lib.hid hr
    clear hr
    obtain ⟨va2, vb2, ve2, rfl, hS2, hb⟩ := hP
    obtain ⟨Aa2, ca2, rfl⟩ := hS2.a.slice
    obtain ⟨Ab2, cb2, rfl⟩ := hS2.b.slice
    obtain ⟨Ae2, ce2, rfl⟩ := hS2.e.slice
    have hQ := HQ.out.bel hb
    have hq2 := hQ.lt
    obtain ⟨z0, z1, z2, z3, z4, z5, z6, z7, r0, r1, r2, r3, r4, r5, r6, r7, y0, y1, y2, y3, y4, y5, y6, y7⟩ := hQ.facts
    have HB := Lib.hid (nfin (R := NoR) s2 HB9.out HQ.out.lt (fun _ h => h.elim) hS2 hb (.int .i64 s2.kind) (.int .i64 s2.no) (.string (S3.B s2.name)) (.int .i64 s2.typ) (.string (S3.B s2.callee)) (.slice Aa2 s2.args.length ca2) (.slice Ab2 s2.body.length cb2) (.slice Ae2 s2.els.length ce2))
    clear hb hQ HQ HB9 hS2 D
    go_wp2_with fail
    exact bodyPost_ret (v := .tuple #[(S3.sV s2 (.slice Aa2 s2.args.length ca2) (.slice Ab2 s2.body.length cb2) (.slice Ae2 s2.els.length ce2)), .int .i64 (m : Int), .int .i64 0]) (by simp [results, Tryz.results38, go_sem, r0, r1, r2, r3, r4, r5, r6, r7]) rfl (by rw [Hr.out]; exact ⟨_, _, _, rfl, HB.out.1, HB.out.2⟩)
set_option maxRecDepth 100000 in
set_option maxHeartbeats 4000000 in
theorem rsblock_calls {w : World} {l : TL} {v : Value} (hT : TokL w w.heap.size v l) (hll : l.length ≤ 1000000) (i d : Nat) (hi : i ≤ l.length) (h1 : 1 ≤ d) (_hd : d ≤ 9223372036854775807) :
    Calls Tryz.prog 41 #[v, .int .i64 (i : Int), .int .i64 (d : Int)] w (PostPB w (blR l i d)) := by
  have CS := Lib.hid ((all6 l v hll _ i hi (Nat.le_refl _)).2 d)
  obtain ⟨TA, Tc, rfl⟩ := hT.val
  have C := Lib.hid (fun W => outside6 (w := W) (n := l.length) (c := Tc) (A := TA) (i : Int) (d : Int) (b := false) (decide_eq_false (by omega)))
  have HT := Lib.hid hT
  clear hT
  generalize blR l i d = r at *
  go_enter Tryz.func41, Tryz.ntmps41
  go_wp2_with fail
  refine (C.out _).mono ?_
  rintro E w1 ⟨rfl, hb⟩
  have D := Lib.hid (CS.out w1 (tokU HT.out hb))
  have HB9 := Lib.hid hb
  clear HT hb C CS
  go_wp2_with fail
  refine D.out.mono ?_
  intro E w10 hP
  cases r with
  | bad j c' =>
    obtain ⟨rfl, hb⟩ := hP
    have HB := Lib.hid (after HB9.out hb)
    clear hb D HB9
    go_wp2_with fail
    go_ret3
    exact ⟨rfl, HB.out⟩
  | ok ss m =>
    obtain ⟨A, c', rfl, hS, hb⟩ := hP
    have HS := Lib.hid (hS.keep (R' := Rn w.heap.size w10.heap.size) (fun b h => ⟨by have := HB9.out.size; have := h.1; omega, h.2⟩) fun _ _ _ => rfl)
    have HB := Lib.hid (after HB9.out hb)
    clear hb D HB9 hS
    go_wp2_with fail
    go_ret3
    exact ⟨A, c', rfl, HS.out, HB.out⟩
end Go.Proofs.YtoldhocdfkndbaaGreatDoor.E6

namespace Go.Proofs.YtoldhocdfkndbaaGreatDoor.E6
open Go Go.RowKit Go.Proofs.YtoldhocdfkndbaaGreatDoor Go.Proofs.YtoldhocdfkndbaaGreatDoor.E5

def PUS (s : St) (i c : Int) (w : World) (E : Ending) (w' : World) : Prop := ∃ Aa ca Ab cb Ae ce, E = .returned (.tuple #[S3.sV s (.slice Aa s.args.length ca) (.slice Ab s.body.length cb) (.slice Ae s.els.length ce), .int .i64 i, .int .i64 c]) ∧ S3.EIn w' w'.heap.size s.args (.slice Aa s.args.length ca) ∧ S3.SIn w' w'.heap.size s.body (.slice Ab s.body.length cb) ∧ S3.SIn w' w'.heap.size s.els (.slice Ae s.els.length ce) ∧ Below w.heap.size w w'
def PUB (ss : List St) (i c : Int) (w : World) (E : Ending) (w' : World) : Prop := ∃ A k, E = .returned (.tuple #[.slice A ss.length k, .int .i64 i, .int .i64 c]) ∧ S3.SIn w' w'.heap.size ss (.slice A ss.length k) ∧ Below w.heap.size w w'
def sOf : RS → St
  | .ok s _ => s
  | .bad _ _ => zS
def sIx : RS → Int
  | .ok _ n => n
  | .bad j _ => j
def sCo : RS → Int
  | .ok _ _ => 0
  | .bad _ c => c
theorem sr_in {w : World} {n m : Nat} {l : List St} {v : Value} (h : S3.SR w (Rn n m) l v) (hm : m ≤ w.heap.size) : S3.SIn w w.heap.size l v := h.keep (fun _ hx => Nat.lt_of_lt_of_le hx.2 hm) fun _ _ _ => rfl
theorem PUS.zero {i c : Int} {w w' : World} {E : Ending} (h : E = .returned (.tuple #[S3.sV zS (.slice none 0 0) (.slice none 0 0) (.slice none 0 0), .int .i64 i, .int .i64 c])) (hb : Below w.heap.size w w') : PUS zS i c w E w' :=
  ⟨none, 0, none, 0, none, 0, h, S3.ER.nil none 0, S3.SR.nil none 0, S3.SR.nil none 0, hb⟩
theorem PUS.of {r : RS} {w : World} {E : Ending} {w' : World} (h : PostPS w r E w') : PUS (sOf r) (sIx r) (sCo r) w E w' := by
  cases r with
  | bad j c =>
    obtain ⟨h1, h2⟩ := h
    exact PUS.zero h1 h2
  | ok s n =>
    obtain ⟨va, vb, ve, h1, h2, h3⟩ := h
    obtain ⟨Aa, ca, rfl⟩ := h2.a.slice
    obtain ⟨Ab, cb, rfl⟩ := h2.b.slice
    obtain ⟨Ae, ce, rfl⟩ := h2.e.slice
    exact ⟨Aa, ca, Ab, cb, Ae, ce, h1, er_in h2.a (Nat.le_refl _), sr_in h2.b (Nat.le_refl _), sr_in h2.e (Nat.le_refl _), h3⟩
def bOf : RBl → List St
  | .ok ss _ => ss
  | .bad _ _ => []
def bIx : RBl → Int
  | .ok _ n => n
  | .bad j _ => j
def bCo : RBl → Int
  | .ok _ _ => 0
  | .bad _ c => c
theorem PUB.of {r : RBl} {w : World} {E : Ending} {w' : World} (h : PostPB w r E w') : PUB (bOf r) (bIx r) (bCo r) w E w' := by
  cases r with
  | bad j c =>
    obtain ⟨h1, h2⟩ := h
    exact ⟨none, 0, h1, S3.SR.nil none 0, h2⟩
  | ok ss n =>
    obtain ⟨A, c, h1, h2, h3⟩ := h
    exact ⟨A, c, h1, sr_in h2 (Nat.le_refl _), h3⟩
/-- What all four readings give. -/
theorem parses_all (l : TL) (hll : l.length ≤ 400) (at_ d : Int) (hd : d ≤ 9223372036854775807) : ∃ (s : St) (i c : Int) (ss : List St) (m g : Int),
    (∀ W A k, TokL W W.heap.size (.slice A l.length k) l → GlobE W → GlobW W → Calls Tryz.prog 37 #[.slice A l.length k, .int .i64 at_, .int .i64 d] W (PUS s i c W)) ∧
    (∀ W A k, TokL W W.heap.size (.slice A l.length k) l → Calls Tryz.prog 38 #[.slice A l.length k, .int .i64 at_, .int .i64 d] W (PUS s i c W)) ∧
    (∀ W A k, TokL W W.heap.size (.slice A l.length k) l → GlobE W → GlobW W → Calls Tryz.prog 40 #[.slice A l.length k, .int .i64 at_, .int .i64 d] W (PUB ss m g W)) ∧
    (∀ W A k, TokL W W.heap.size (.slice A l.length k) l → Calls Tryz.prog 41 #[.slice A l.length k, .int .i64 at_, .int .i64 d] W (PUB ss m g W)) := by
  by_cases h : at_ < 0 ∨ (l.length : Int) < at_ ∨ d < 1
  · refine ⟨zS, 0, 3, [], 0, 3, fun W A k _ _ _ => ?_, fun W A k _ => ?_, fun W A k _ _ _ => ?_, fun W A k _ => ?_⟩
    · exact (sparse_range at_ d h).mono fun E w' hx => PUS.zero hx.1 hx.2
    · exact (rsparse_range at_ d h).mono fun E w' hx => PUS.zero hx.1 hx.2
    · exact (sblock_range at_ d h).mono fun E w' hx => ⟨none, 0, hx.1, S3.SR.nil none 0, hx.2⟩
    · exact (rsblock_range at_ d h).mono fun E w' hx => ⟨none, 0, hx.1, S3.SR.nil none 0, hx.2⟩
  · obtain ⟨i, rfl⟩ := Int.eq_ofNat_of_zero_le (show 0 ≤ at_ by omega)
    obtain ⟨n, rfl⟩ := Int.eq_ofNat_of_zero_le (show 0 ≤ d by omega)
    have hi : i ≤ l.length := by omega
    have hn : n ≤ 9223372036854775807 := by omega
    have h6 : l.length ≤ 1000000 := by omega
    have h1 : 1 ≤ n := by omega
    refine ⟨sOf (stR l i n), sIx (stR l i n), sCo (stR l i n), bOf (blR l i n), bIx (blR l i n), bCo (blR l i n), fun W A k hT hG hW => ?_, fun W A k hT => ?_, fun W A k hT hG hW => ?_, fun W A k hT => ?_⟩
    · exact (sparse_calls hT hG hi hW h6 h1).mono fun E w' hx => PUS.of (by rw [stR_depS l i n hi] at hx; exact hx)
    · exact (rsparse_calls hT h6 i n hi h1 hn).mono fun E w' hx => PUS.of hx
    · exact (sblock_calls hT hG hi hW h6 h1).mono fun E w' hx => PUB.of (by rw [blR_depS l i n hi] at hx; exact hx)
    · exact (rsblock_calls hT h6 i n hi h1 hn).mono fun E w' hx => PUB.of hx
end Go.Proofs.YtoldhocdfkndbaaGreatDoor.E6

namespace Go.Proofs.YtoldhocdfkndbaaGreatDoor.E6
open Go Go.RowKit Go.Proofs.YtoldhocdfkndbaaGreatDoor Go.Proofs.YtoldhocdfkndbaaGreatDoor.E5

theorem clone_was {w : World} {l : TL} {A : Option Addr} {n c : Nat} (h : TokL w w.heap.size (.slice A n c) l) (hl : l.length ≤ 1000000) :
    ∃ V : Nat → Int, AtL w w.heap.size (.slice A n c) l V ∧ ∀ (W : World) (ty : TypeId), Below w.heap.size w W → ∃ v' w', (Builtin.append_ #[35, 35] ty #[.slice (some ⟨W.heap.size, 0, none⟩) 0 0, .slice A n c]).run Tryz.prog (W.alloc (.cells #[] 44)) = .ok v' w' ∧ (∃ A' c', v' = .slice A' l.length c' ∧ AtL w' w'.heap.size (.slice A' l.length c') l V) ∧ Below W.heap.size W w' := by
  have h0 := h
  obtain ⟨A', c', h1, h2, h3⟩ := h0
  cases h1
  have each : ∀ i, ∃ a : Int, ∀ t, l[i]? = some t → t.2.length ≤ 9223372036854775807 ∧ ∃ b o, A = some ⟨b, o, none⟩ ∧ b < w.heap.size ∧ w.cell? ⟨b, o + i * 3, none⟩ = some (.int .i64 t.1) ∧ w.cell? ⟨b, o + i * 3 + 1, none⟩ = some (.string (B t.2)) ∧ w.cell? ⟨b, o + i * 3 + 2, none⟩ = some (.int .i64 a) := by
    intro i
    cases hi : l[i]? with
    | none => exact ⟨0, fun t ht => by cases ht⟩
    | some t =>
      obtain ⟨e0, b, o, a, e1, e2, e3, e4, e5⟩ := h3 i t hi
      exact ⟨a, fun t' ht => by cases ht; exact ⟨e0, b, o, e1, e2, e3, e4, e5⟩⟩
  obtain ⟨V, hV⟩ := Classical.axiomOfChoice each
  have hl2 : (kA.rows l V).length = l.length := S3.RowKind.rows_len l V
  refine ⟨V, ⟨A, c, rfl, fun i t hi => (hV i t hi).2⟩, fun W ty hW => ?_⟩
  obtain ⟨i0, hi, hq0, hq1, hq2⟩ := L4.info_partsT L4.infoTok
  have hown : (W.alloc (.cells #[] 44)).ownsRow W.heap.size 44 3 (.slice (some ⟨W.heap.size, 0, none⟩) 0 0) 0 [] :=
    ⟨by simp, .inr ⟨W.heap.size, 0, #[], rfl, Nat.le_refl _, heap_alloc_new W _, Nat.le_refl _, by unfold maxLen; omega, by simp, by simp⟩⟩
  have hba := S3.bal W (.cells #[] 44)
  rcases Nat.eq_zero_or_pos l.length with h0 | h0
  · have hnil := List.eq_nil_of_length_eq_zero h0
    subst hnil
    exact ⟨_, _, append_empty _ _ ty _ i0 Tryz.underlying35 hi _ A 0 0 _ (Nat.le_refl _), ⟨_, _, rfl, _, _, rfl, fun i t hi => by simp at hi⟩, hba⟩
  · obtain ⟨_, b, o, rfl, hbl, _⟩ := hV 0 l[0] (List.getElem?_eq_getElem h0)
    have hfl : (kA.rows l V).flatten.length = l.length * 3 := by rw [S3.flat_len (S3.RowKind.rows_sz l V), hl2]; rfl
    obtain ⟨v', w', hrun, h2, h3, _, h5⟩ := run_append_own_at (P := Tryz.prog) (W.alloc (.cells #[] 44)) W.heap.size 35 ty 44 i0 _ 3 32 Tryz.underlying35 hi hq0 hq1 hq2 rfl (by decide) (.slice (some ⟨W.heap.size, 0, none⟩) 0 0) 0 [] hown ⟨b, o, none⟩ l.length c (kA.rows l V).flatten hfl (fun j u hu => by
      rw [add_plain]
      refine S3.rows_read (w := W.alloc (.cells #[] 44)) (b := b) (o := o) (sz := 3) (by omega) (S3.RowKind.rows_sz l V) (fun i r j u hi hj => ?_) j u hu
      have hil : i < l.length := by
        have := (List.getElem?_eq_some_iff.1 hi).1
        rwa [S3.RowKind.rows_len] at this
      have hr : r = [.int .i64 (l[i]).1, .string (B (l[i]).2), .int .i64 (V i)] := by
        simp [S3.RowKind.rows, List.getElem?_mapIdx, List.getElem?_eq_getElem hil, kA] at hi
        exact hi.symm
      subst hr
      obtain ⟨_, b', o', f1, _, f3, f4, f5⟩ := hV i l[i] (List.getElem?_eq_getElem hil)
      cases f1
      have hbb := after hW hba
      have k := fun q => hbb.cell (p := ⟨b, q, none⟩) hbl
      match j, hj with
      | 0, hj => cases hj; exact (k _).trans f3
      | 1, hj => cases hj; exact (k _).trans f4
      | 2, hj => cases hj; exact (k _).trans f5
      | j + 3, hj => simp at hj) (kA_one l V) (by unfold maxLen; omega) (by omega) (by simp)
    rw [Nat.zero_add] at h2
    have ho' : w'.ownsRow W.heap.size 44 3 v' (kA.rows l V).length (kA.rows l V).flatten := by rw [hl2]; simpa using h2
    obtain ⟨g, cap, rfl, hg, hr⟩ := S3.RowAt.of_own ho' (S3.RowKind.rows_sz _ _) (by rw [hl2]; exact h0)
    rw [hl2] at hrun
    refine ⟨_, w', hrun, ⟨_, cap, rfl, _, cap, rfl, fun i t hi => ⟨g, 0, rfl, hr.lt, ?_⟩⟩, hba.grown h3 (by simp) (by rintro k hk; simp [Value.ownBlock] at hk; omega)⟩
    have hrow : (kA.rows l V)[i]? = some [.int .i64 t.1, .string (B t.2), .int .i64 (V i)] := by simp [S3.RowKind.rows, List.getElem?_mapIdx, hi, kA]
    have c := fun j u hj => hr.cell (j := j) (u := u) hrow hj
    rw [Nat.zero_add]
    exact ⟨c 0 _ rfl, c 1 _ rfl, c 2 _ rfl⟩
set_option maxRecDepth 100000 in
set_option maxHeartbeats 8000000 in
theorem parses_law (hWk : WorksR6) (l : TL) (A : Option Addr) (c : Nat) (at_ d : Int) (hd : d ≤ 9223372036854775807) (w : World) (hT : TokL w w.heap.size (.slice A l.length c) l) (hG : Glob6 w) :
    Calls Tryz.prog 9 #[.slice A l.length c, .int .i64 at_, .int .i64 d] w fun e w' => e = .returned (.bool true) ∧ Below w.heap.size w w' := by
  have HWk := Lib.hid hWk
  have HG := Lib.hid hG
  have HF := Lib.hid (few_calls hT)
  have HT := Lib.hid hT
  clear hWk hG hT
  go_enter Tryz.func9, Tryz.ntmps9
  try simp only [List.append_eq, List.cons_append, List.nil_append]
  go_wp2_with fail
  refine HF.out.mono ?_
  rintro E w0 ⟨b, rfl, hb4, hb⟩
  have HB0 := Lib.hid hb
  clear hb HF
  cases b with
  | false =>
    clear hb4
    go_wp2_with fail
    refine (HWk.out w0 (HG.out.up HB0.out)).mono ?_
    rintro E w1 ⟨rfl, hb⟩
    have HB1 := Lib.hid (after HB0.out hb)
    clear hb
    go_wp2_with fail
    go_ret
    exact ⟨rfl, HB1.out⟩
  | true =>
  have hl4 := hb4 rfl
  clear hb4
  obtain ⟨s, i, c9, ss, m, g, C1, C2, C3, C4⟩ := parses_all l (by omega) at_ d hd
  obtain ⟨V, hAt, hCl⟩ := clone_was HT.out (by omega)
  obtain ⟨v', w1, hrun, ⟨A1, c1, rfl, hAt1⟩, hb1⟩ := hCl w0 35 HB0.out
  have HAt := Lib.hid hAt
  have HA1 := Lib.hid hAt1
  have HRUN := Lib.hid hrun
  have HB1 := Lib.hid (after HB0.out hb1)
  have HC1 := Lib.hid C1
  have HC2 := Lib.hid C2
  have HC3 := Lib.hid C3
  have HC4 := Lib.hid C4
  have HR := Lib.hid (fun W (hT : TokL W W.heap.size (.slice A l.length c) l) => ref6_calls hT (by omega : l.length ≤ 1000000))
  clear hAt hCl hrun hAt1 hb1 C1 C2 C3 C4
  go_wp2_with (at_builtin; refine Lib.wpList_append_run _ rfl _ _ _ _ rfl _ _ rfl rfl _ _ HRUN.out ?_)
  refine (HC1.out w1 A c (tokU HT.out HB1.out) (HG.out.up HB1.out).e (HG.out.up HB1.out).g).mono ?_
  rintro E w2 ⟨Aa, ca, Ab, cb, Ae, ce, rfl, hE1, hE2, hE3, hb⟩
  have hb2 := S3.bal w2 (S3.sO s (.slice Aa s.args.length ca) (.slice Ab s.body.length cb) (.slice Ae s.els.length ce))
  have HB2 := Lib.hid (after (after HB1.out hb) hb2)
  have HA2 := Lib.hid ((HA1.out.bel (after hb hb2)).mono (after hb hb2).size)
  have HX2 := Lib.hid (S3.SBox.new w2 s (.slice Aa s.args.length ca) (.slice Ab s.body.length cb) (.slice Ae s.els.length ce))
  have HE2 := Lib.hid (And.intro (hE1.up hb2) (And.intro (hE2.up hb2) (hE3.up hb2)))
  have hp2 : w2.heap.size < (w2.alloc (S3.sO s (.slice Aa s.args.length ca) (.slice Ab s.body.length cb) (.slice Ae s.els.length ce))).heap.size := by rw [S3.sz1]; omega
  clear hb hb2 hE1 hE2 hE3 HC1 HA1
  generalize hpa : w2.heap.size = pa at *
  go_wp2_with fail
  generalize w2.alloc (S3.sO s (.slice Aa s.args.length ca) (.slice Ab s.body.length cb) (.slice Ae s.els.length ce)) = u2 at *
  refine (HR.out u2 (tokU HT.out HB2.out)).mono ?_
  rintro E w3 ⟨A3, c3, rfl, hT3, hb⟩
  have HB3 := Lib.hid (after HB2.out hb)
  have HA3 := Lib.hid ((HA2.out.bel hb).mono hb.size)
  have HX3 := Lib.hid (HX2.out.keep hb hp2)
  have HE3 := Lib.hid (And.intro (HE2.out.1.up hb) (And.intro (HE2.out.2.1.up hb) (HE2.out.2.2.up hb)))
  have HT3 := Lib.hid hT3
  have hp3 : pa < w3.heap.size := Nat.lt_of_lt_of_le hp2 hb.size
  clear hb hT3 HA2 HX2 HE2
  go_wp2_with fail
  refine (HC2.out w3 A3 c3 HT3.out).mono ?_
  rintro E w4 ⟨Ba, da, Bb, db, Be, de, rfl, hE1, hE2, hE3, hb⟩
  have hb2 := S3.bal w4 (S3.sO s (.slice Ba s.args.length da) (.slice Bb s.body.length db) (.slice Be s.els.length de))
  have HB4 := Lib.hid (after (after HB3.out hb) hb2)
  have HA4 := Lib.hid ((HA3.out.bel (after hb hb2)).mono (after hb hb2).size)
  have HX4 := Lib.hid (HX3.out.keep (after hb hb2) hp3)
  have HE4 := Lib.hid (And.intro (HE3.out.1.up (after hb hb2)) (And.intro (HE3.out.2.1.up (after hb hb2)) (HE3.out.2.2.up (after hb hb2))))
  have HY4 := Lib.hid (S3.SBox.new w4 s (.slice Ba s.args.length da) (.slice Bb s.body.length db) (.slice Be s.els.length de))
  have HF4 := Lib.hid (And.intro (hE1.up hb2) (And.intro (hE2.up hb2) (hE3.up hb2)))
  have hq4 : w4.heap.size < (w4.alloc (S3.sO s (.slice Ba s.args.length da) (.slice Bb s.body.length db) (.slice Be s.els.length de))).heap.size := by rw [S3.sz1]; omega
  have hp4 : pa < (w4.alloc (S3.sO s (.slice Ba s.args.length da) (.slice Bb s.body.length db) (.slice Be s.els.length de))).heap.size := Nat.lt_of_lt_of_le hp3 (after hb hb2).size
  clear hb hb2 hE1 hE2 hE3 HC2 HA3 HX3 HE3 HT3 HB3 HB2
  generalize hpb : w4.heap.size = pb at *
  go_wp2_with fail
  generalize w4.alloc (S3.sO s (.slice Ba s.args.length da) (.slice Bb s.body.length db) (.slice Be s.els.length de)) = u4 at *
  refine (HC3.out u4 A c (tokU HT.out HB4.out) (HG.out.up HB4.out).e (HG.out.up HB4.out).g).mono ?_
  rintro E w5 ⟨Ax, cx, rfl, hx, hb⟩
  have HB5 := Lib.hid (after HB4.out hb)
  have HA5 := Lib.hid ((HA4.out.bel hb).mono hb.size)
  have HX5 := Lib.hid (HX4.out.keep hb hp4)
  have HE5 := Lib.hid (And.intro (HE4.out.1.up hb) (And.intro (HE4.out.2.1.up hb) (HE4.out.2.2.up hb)))
  have HY5 := Lib.hid (HY4.out.keep hb hq4)
  have HF5 := Lib.hid (And.intro (HF4.out.1.up hb) (And.intro (HF4.out.2.1.up hb) (HF4.out.2.2.up hb)))
  have HL5 := Lib.hid hx
  have hp5 : pa < w5.heap.size := Nat.lt_of_lt_of_le hp4 hb.size
  have hq5 : pb < w5.heap.size := Nat.lt_of_lt_of_le hq4 hb.size
  clear hb hx HC3 HA4 HX4 HE4 HY4 HF4 HB4
  go_wp2_with fail
  refine (HR.out w5 (tokU HT.out HB5.out)).mono ?_
  rintro E w6 ⟨A6, c6, rfl, hT6, hb⟩
  have HB6 := Lib.hid (after HB5.out hb)
  have HA6 := Lib.hid ((HA5.out.bel hb).mono hb.size)
  have HX6 := Lib.hid (HX5.out.keep hb hp5)
  have HE6 := Lib.hid (And.intro (HE5.out.1.up hb) (And.intro (HE5.out.2.1.up hb) (HE5.out.2.2.up hb)))
  have HY6 := Lib.hid (HY5.out.keep hb hq5)
  have HF6 := Lib.hid (And.intro (HF5.out.1.up hb) (And.intro (HF5.out.2.1.up hb) (HF5.out.2.2.up hb)))
  have HL6 := Lib.hid (HL5.out.up hb)
  have HT6 := Lib.hid hT6
  have hp6 : pa < w6.heap.size := Nat.lt_of_lt_of_le hp5 hb.size
  have hq6 : pb < w6.heap.size := Nat.lt_of_lt_of_le hq5 hb.size
  clear hb hT6 HA5 HX5 HE5 HY5 HF5 HL5 HB5
  go_wp2_with fail
  refine (HC4.out w6 A6 c6 HT6.out).mono ?_
  rintro E w7 ⟨Ay, cy, rfl, hy, hb⟩
  have HB7 := Lib.hid (after HB6.out hb)
  have HA7 := Lib.hid ((HA6.out.bel hb).mono hb.size)
  have HX7 := Lib.hid (HX6.out.keep hb hp6)
  have HE7 := Lib.hid (And.intro (HE6.out.1.up hb) (And.intro (HE6.out.2.1.up hb) (HE6.out.2.2.up hb)))
  have HY7 := Lib.hid (HY6.out.keep hb hq6)
  have HF7 := Lib.hid (And.intro (HF6.out.1.up hb) (And.intro (HF6.out.2.1.up hb) (HF6.out.2.2.up hb)))
  have HL7 := Lib.hid (HL6.out.up hb)
  have HM7 := Lib.hid hy
  have hp7 : pa < w7.heap.size := Nat.lt_of_lt_of_le hp6 hb.size
  have hq7 : pb < w7.heap.size := Nat.lt_of_lt_of_le hq6 hb.size
  have HO7 := Lib.hid ((HAt.out.bel HB7.out).mono HB7.out.size)
  clear hb hy HC4 HA6 HX6 HE6 HY6 HF6 HL6 HB6 HT6 HAt HRUN HB1 HB0
  clear hpa hpb
  obtain ⟨A9, c9', e9, HAo⟩ := HA7.out
  cases e9
  obtain ⟨A8, c8', e8, HOo⟩ := HO7.out
  cases e8
  have HAo := Lib.hid HAo
  have HOo := Lib.hid HOo
  clear HA7 HO7
  go_wp2_with fail
  go_loopw [20] (fun i wr => ∃ k : Nat, k ≤ l.length ∧ i = .int .i64 (k : Int) ∧ Hid (Below w7.heap.size w7 wr)) (fun i _ => l.length - (intOf i).toNat)
  case atStart => exact ⟨0, by omega, rfl, Lib.hid (Below.refl _ _)⟩
  case round =>
    obtain ⟨k, hk, rfl, HW⟩ := hrel
    by_cases hlt : k < l.length
    · have hlt' : (k : Int) < (l.length : Int) := by omega
      obtain ⟨t, htk⟩ : ∃ t, l[k]? = some t := ⟨_, List.getElem?_eq_getElem hlt⟩
      obtain ⟨b1, o1, hA1, hb1, x0, x1, x2⟩ := HOo.out k t htk
      obtain ⟨b2, o2, hA2, hb2, y0, y1, y2⟩ := HAo.out k t htk
      subst hA1
      subst hA2
      have x0 := (HW.out.cell (p := ⟨b1, o1 + k * 3, none⟩) hb1).trans x0
      have x1 := (HW.out.cell (p := ⟨b1, o1 + k * 3 + 1, none⟩) hb1).trans x1
      have x2 := (HW.out.cell (p := ⟨b1, o1 + k * 3 + 2, none⟩) hb1).trans x2
      have y0 := (HW.out.cell (p := ⟨b2, o2 + k * 3, none⟩) hb2).trans y0
      have y1 := (HW.out.cell (p := ⟨b2, o2 + k * 3 + 1, none⟩) hb2).trans y1
      have y2 := (HW.out.cell (p := ⟨b2, o2 + k * 3 + 2, none⟩) hb2).trans y2
      have HWd := Lib.hid (HW.out.drew)
      have hbw1 : b1 < wr.heap.size := by have := HW.out.size; omega
      have hbw2 : b2 < wr.heap.size := by have := HW.out.size; omega
      generalize V k = z at *
      obtain ⟨t1, t2⟩ := t
      simp only at x0 x1 y0 y1
      have hS0 := Lib.hid (bal_dr2 wr)
      have qx0 := fun W1 (h : Hid (Below wr.heap.size wr W1)) => (h.out.cell (p := ⟨b1, o1 + k * 3, none⟩) hbw1).trans x0
      have qx1 := fun W1 (h : Hid (Below wr.heap.size wr W1)) => (h.out.cell (p := ⟨b1, o1 + k * 3 + 1, none⟩) hbw1).trans x1
      have qx2 := fun W1 (h : Hid (Below wr.heap.size wr W1)) => (h.out.cell (p := ⟨b1, o1 + k * 3 + 2, none⟩) hbw1).trans x2
      have qy0 := fun W1 (h : Hid (Below wr.heap.size wr W1)) => (h.out.cell (p := ⟨b2, o2 + k * 3, none⟩) hbw2).trans y0
      have qy1 := fun W1 (h : Hid (Below wr.heap.size wr W1)) => (h.out.cell (p := ⟨b2, o2 + k * 3 + 1, none⟩) hbw2).trans y1
      have qy2 := fun W1 (h : Hid (Below wr.heap.size wr W1)) => (h.out.cell (p := ⟨b2, o2 + k * 3 + 2, none⟩) hbw2).trans y2
      clear htk HX7 HE7 HY7 HF7 HL7 HM7 hp7 hq7
      go_wp2_with fail
      refine wp_region_noPanic ?_
      refine wp_region_held_drew (S := fun W1 => Hid (Below wr.heap.size wr W1)) (by kernel_rfl) hS0 (fun hHeld => ?_)
      clear hS0
      generalize wr.drew = wd at *
      refine wpAnyH_take (i := 0) (oi := { dst := some 68, op := Go.Op.move (Go.Operand.tmp 0), type := 35, pos := "law.go:116", after := #[], guard := none }) (v := ?_) rfl (by as_aux_lemma => kernel_rfl) (by as_aux_lemma => kernel_rfl) (by as_aux_lemma => kernel_rfl) (fun _ _ _ h => h) (Or.inl ⟨by rfl, ?_⟩) hHeld ?_
      rotate_left
      · (intro w hSw; (try dsimp only at hSw); go_simp; try with_reducible rfl)
      try simp only [Act.put, List.setIfInBounds_toArray, List.set_cons_zero, List.set_cons_succ]
      refine wpAnyH_take (i := 1) (oi := { dst := some 69, op := Go.Op.move (Go.Operand.tmp 20), type := 3, pos := "law.go:116", after := #[], guard := none }) (v := ?_) rfl (by as_aux_lemma => kernel_rfl) (by as_aux_lemma => kernel_rfl) (by as_aux_lemma => kernel_rfl) (fun _ _ _ h => h) (Or.inl ⟨by rfl, ?_⟩) hHeld ?_
      rotate_left
      · (intro w hSw; (try dsimp only at hSw); go_simp; try with_reducible rfl)
      try simp only [Act.put, List.setIfInBounds_toArray, List.set_cons_zero, List.set_cons_succ]
      refine wpAnyH_take (i := 2) (oi := { dst := some 70, op := Go.Op.indexAddr 35 (Go.Operand.tmp 68) (Go.Operand.tmp 69), type := 0, pos := "law.go:116", after := #[{ on := 0, ground := Go.Ground.data }, { on := 1, ground := Go.Ground.data }], guard := none }) (v := ?_) rfl (by as_aux_lemma => kernel_rfl) (by as_aux_lemma => kernel_rfl) (by as_aux_lemma => kernel_rfl) (fun _ _ _ h => h) (Or.inl ⟨by rfl, ?_⟩) hHeld ?_
      rotate_left
      · (intro w hSw; (try dsimp only at hSw); go_simp; try with_reducible rfl)
      try simp only [Act.put, List.setIfInBounds_toArray, List.set_cons_zero, List.set_cons_succ]
      refine wpAnyH_take (i := 3) (oi := { dst := some 71, op := Go.Op.load 44 (Go.Operand.tmp 70), type := 44, pos := "law.go:116", after := #[{ on := 2, ground := Go.Ground.data }], guard := none }) (v := ?_) rfl (by as_aux_lemma => kernel_rfl) (by as_aux_lemma => kernel_rfl) (by as_aux_lemma => kernel_rfl) (fun _ _ _ h => h) (Or.inl ⟨by rfl, ?_⟩) hHeld ?_
      rotate_left
      · (intro w hSw; (try dsimp only at hSw); go_simp; try with_reducible rfl)
      try simp only [Act.put, List.setIfInBounds_toArray, List.set_cons_zero, List.set_cons_succ]
      refine wpAnyH_take (i := 4) (oi := { dst := some 72, op := Go.Op.move (Go.Operand.tmp 7), type := 35, pos := "law.go:116", after := #[], guard := none }) (v := ?_) rfl (by as_aux_lemma => kernel_rfl) (by as_aux_lemma => kernel_rfl) (by as_aux_lemma => kernel_rfl) (fun _ _ _ h => h) (Or.inl ⟨by rfl, ?_⟩) hHeld ?_
      rotate_left
      · (intro w hSw; (try dsimp only at hSw); go_simp; try with_reducible rfl)
      try simp only [Act.put, List.setIfInBounds_toArray, List.set_cons_zero, List.set_cons_succ]
      refine wpAnyH_take (i := 5) (oi := { dst := some 73, op := Go.Op.move (Go.Operand.tmp 20), type := 3, pos := "law.go:116", after := #[], guard := none }) (v := ?_) rfl (by as_aux_lemma => kernel_rfl) (by as_aux_lemma => kernel_rfl) (by as_aux_lemma => kernel_rfl) (fun _ _ _ h => h) (Or.inl ⟨by rfl, ?_⟩) hHeld ?_
      rotate_left
      · (intro w hSw; (try dsimp only at hSw); go_simp; try with_reducible rfl)
      try simp only [Act.put, List.setIfInBounds_toArray, List.set_cons_zero, List.set_cons_succ]
      refine wpAnyH_take (i := 6) (oi := { dst := some 74, op := Go.Op.indexAddr 35 (Go.Operand.tmp 72) (Go.Operand.tmp 73), type := 0, pos := "law.go:116", after := #[{ on := 4, ground := Go.Ground.data }, { on := 5, ground := Go.Ground.data }], guard := none }) (v := ?_) rfl (by as_aux_lemma => kernel_rfl) (by as_aux_lemma => kernel_rfl) (by as_aux_lemma => kernel_rfl) (fun _ _ _ h => h) (Or.inl ⟨by rfl, ?_⟩) hHeld ?_
      rotate_left
      · (intro w hSw; (try dsimp only at hSw); go_simp; try with_reducible rfl)
      try simp only [Act.put, List.setIfInBounds_toArray, List.set_cons_zero, List.set_cons_succ]
      refine wpAnyH_take (i := 7) (oi := { dst := some 75, op := Go.Op.load 44 (Go.Operand.tmp 74), type := 44, pos := "law.go:116", after := #[{ on := 6, ground := Go.Ground.data }], guard := none }) (v := ?_) rfl (by as_aux_lemma => kernel_rfl) (by as_aux_lemma => kernel_rfl) (by as_aux_lemma => kernel_rfl) (fun _ _ _ h => h) (Or.inl ⟨by rfl, ?_⟩) hHeld ?_
      rotate_left
      · (intro w hSw; (try dsimp only at hSw); go_simp; try with_reducible rfl)
      try simp only [Act.put, List.setIfInBounds_toArray, List.set_cons_zero, List.set_cons_succ]
      refine wpAnyH_ready (rs := [8]) (by as_aux_lemma => kernel_rfl) (List.cons_ne_nil _ _) ?_
      refine AllReadyH.cons (o := { dst := some 76, op := Go.Op.binOp Go.BinOp.neq 44 (Go.Operand.tmp 71) (Go.Operand.tmp 75) 44, type := 4, pos := "law.go:116", after := #[{ on := 3, ground := Go.Ground.data }, { on := 7, ground := Go.Ground.data }], guard := none }) rfl (fun K hK => ?_) AllReadyH.nil
      go_simp
      refine hK.out _ _ hHeld (fun _ => ?_)
      clear hK K
      try simp only [Act.put, List.setIfInBounds_toArray, List.set_cons_zero, List.set_cons_succ]
      refine wpAnyH_done (by kernel_rfl) ?_ _
      refine NoPanic.normal ?_
      go_wp2_with fail
      go_roundw
      case rel => exact ⟨k + 1, by omega, by go_num, HWd⟩
      case measure => simp [intOf]; omega
    · obtain rfl : k = l.length := by omega
      have qi : (i == i) = true := beq_self_eq_true _
      have qc : (c9 == c9) = true := beq_self_eq_true _
      have qm : (m == m) = true := beq_self_eq_true _
      have qg : (g == g) = true := beq_self_eq_true _
      obtain ⟨x0, x1, x2, x3, x4, x5, x6, x7⟩ := HX7.out.keep HW.out hp7
      obtain ⟨y0, y1, y2, y3, y4, y5, y6, y7⟩ := HY7.out.keep HW.out hq7
      have CE := exactC_calls s s (.slice Aa s.args.length ca) (.slice Ab s.body.length cb) (.slice Ae s.els.length ce) (.slice Ba s.args.length da) (.slice Bb s.body.length db) (.slice Be s.els.length de) wr (HE7.out.1.up HW.out) (HE7.out.2.1.up HW.out) (HE7.out.2.2.up HW.out) (HF7.out.1.up HW.out) (HF7.out.2.1.up HW.out) (HF7.out.2.2.up HW.out)
      rw [eqX_iff.2 rfl] at CE
      have CE := Lib.hid CE
      have hp8 : pa < wr.heap.size := by have := HW.out.size; omega
      have hq8 : pb < wr.heap.size := by have := HW.out.size; omega
      clear HX7 HY7 HE7 HF7
      go_wp2_with fail
      refine CE.out.mono ?_
      rintro E2 wa ⟨rfl, hb⟩
      have HBa := Lib.hid (after (after HB7.out HW.out) hb)
      have HCa := Lib.hid (after HW.out hb)
      clear hb CE
      have CA := allC_calls ss ss _ _ wa (HL7.out.up HCa.out) (HM7.out.up HCa.out)
      rw [eqLs_iff.2 rfl] at CA
      have CA := Lib.hid CA
      go_wp2_with fail
      refine CA.out.mono ?_
      rintro E2 wb ⟨rfl, hb⟩
      have HBb := Lib.hid (after HBa.out hb)
      clear hb CA
      go_wp2_with fail
      refine (HWk.out wb (HG.out.up HBb.out)).mono ?_
      rintro E2 wz ⟨rfl, hb⟩
      have HZ := Lib.hid (after HBb.out hb)
      clear hb
      go_wp2_with fail
      go_ret
      exact ⟨rfl, HZ.out⟩
end Go.Proofs.YtoldhocdfkndbaaGreatDoor.E6
