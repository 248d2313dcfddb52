/-
  The reader's list: its contract.
-/
import Derived.Test.YtipepljmfgjbpaaGreatDoorERd3
import Derived.Test.YtipepljmfgjbpaaGreatDoorSGrow
namespace Go.Proofs.YtipepljmfgjbpaaGreatDoor.E5
open Go Go.RowKit Go.Proofs.YtipepljmfgjbpaaGreatDoor

theorem info_parts {T : TypeId} {z : Value} {n b : Nat} (h : (Tryz.prog.info? T).map (fun i => (i.zero, i.size, i.bytes)) = some (some z, n, b)) : ∃ i, Tryz.prog.info? T = some i ∧ i.zero = some z ∧ i.size = n ∧ i.bytes = b := by
  cases h1 : Tryz.prog.info? T with
  | none => rw [h1] at h; cases h
  | some i =>
    rw [h1] at h
    simp at h
    exact ⟨i, rfl, h.1, h.2.1, h.2.2⟩
theorem news_new (W : World) (vs : List Value) (T : TypeId) (H : Nat) (hH : W.heap.size = H) : ∀ j u, vs[j]? = some u → (W.alloc (.cells vs.toArray T)).cell? ((⟨H, 0, none⟩ : Addr).add j) = some u := by
  subst hH
  intro j u h
  rw [show (Addr.add ⟨W.heap.size, 0, none⟩ j) = ⟨W.heap.size, j, none⟩ by unfold Addr.add; split <;> simp_all]
  exact S3.newCell W vs.toArray T j u (by rw [List.getElem?_toArray]; exact h)
theorem Fr.belB {b : RB} {w w1 w8 : World} (h : Fr b w w1) (hb : Below w.heap.size w1 w8) : Fr b w w8 :=
  ⟨hb.os.trans h.os, hb.tape.trans h.tape, hb.output.trans h.output, Nat.le_trans h.size hb.size, fun k hk h1 h2 => (hb.block k hk).trans (h.blk k hk h1 h2)⟩
theorem Fr.s3 {b : RB} {w w' : World} (h : Fr b w w') : S3.Fr b.c b.r w w' := ⟨h.os, h.tape, h.output, h.size, fun k hk h1 h2 => h.blk k hk h1 h2⟩

/-- The method as a value. -/
abbrev fX (b : RB) : Value := .func (.func 74) #[rp b] #[]
/-- Behind an expression of a list. -/
def aft (l : TL) (d f : Nat) (acc : List Ex) (n : Nat) : ResL := if sgAt l n = [44] then lstR l d f acc (n + 1) else if sgAt l n = [41] then .ok acc (n + 1) else .bad n 7
theorem lstR_eq (l : TL) (d f : Nat) (acc : List Ex) (i : Nat) : lstR l d (f + 1) acc i = match binR l i d 1 with
    | .bad j c => .bad j c
    | .ok e n => aft l d f (acc ++ [e]) n := by
  rw [lstR, parseR_is]
  cases binR l i d 1 with
  | bad j c => rfl
  | ok e n => rfl
def PostL (w : World) (l : TL) (v : Value) (b : RB) (d : Nat) : ResL → Ending → World → Prop
  | .ok es n => fun E w' => ∃ A c, E = .returned (.slice A es.length c) ∧ S3.ER w' (Rn w.heap.size w'.heap.size) es (.slice A es.length c) ∧ Rd w' l v b n d ∧ Fr b w w'
  | .bad a c => fun E w' => E = bad a c ∧ Fr b w w'
/-- What has been read of a list. -/
structure LI (w : World) (l : TL) (v : Value) (b : RB) (d : Nat) (r : ResL) (acc : List Ex) (n f : Nat) (x : Value) (wr : World) : Prop where
  rd : Rd wr l v b n d
  gr : S3.GrI S3.kE w.heap.size acc x wr
  fr : Fr b w wr
  af : r = aft l d f acc n
  fuel : l.length - n + 1 ≤ f
  le : acc.length ≤ n
theorem er_gr {base : Nat} {v : Value} {wr : World} {l : List Ex} (h : S3.GrI S3.kE base l v wr) (hl : l.length ≤ 9223372036854775807) : S3.ER wr (Rn base wr.heap.size) l v := by
  rcases h.done with ⟨rfl, A, c, rfl⟩ | ⟨g, cap, V, rfl, hg, hr, hp⟩
  · exact S3.ER.nil _ _
  · exact S3.ER.of_row (V := V) hr ⟨hg, hr.lt⟩ hl (fun i e hi => (hp i e hi).1) fun i e hi => (hp i e hi).2.keep (fun b hb => ⟨hb.1, hb.2.1⟩) fun _ _ _ => rfl
theorem gr_fr {base : Nat} {l : List Ex} {v : Value} {wr w' : World} (h : S3.GrI S3.kE base l v wr) {b : RB} (hb : b.r < base) (hf : Fr b wr w') : S3.GrI S3.kE base l v w' := h.keep hf.size fun k h1 h2 => hf.block k h2 (Nat.lt_of_lt_of_le hb h1)
/-- One more expression: what the law of append asks, and what it leaves. -/
theorem LI.step {w wr w1 : World} {l : TL} {v : Value} {b : RB} {d : Nat} {r : ResL} {acc : List Ex} {n' f : Nat} {x : Value} {e : Ex} {A : Option Addr} {k c : Nat} (hbw : b < w.heap.size) (hgr : S3.GrI S3.kE w.heap.size acc x wr) (hfr : Fr b w wr)
    (ho : S3.OkE e) (hE : S3.ER w1 (Rn wr.heap.size w1.heap.size) e.args (.slice A k c)) (hR : Rd w1 l v b n' d) (hF : Fr b wr w1) (ha : r = aft l d f (acc ++ [e]) n') (hf : l.length - n' + 1 ≤ f) (hle : acc.length + 1 ≤ n') :
    ∃ xs, w1.ownsRow w.heap.size 67 5 x acc.length xs ∧ (∀ o g cap w8, w8.ownsRow w.heap.size 67 5 (.slice (some ⟨g, 0, none⟩) (acc.length + 1) cap) (acc.length + 1) (xs ++ S3.eC e (.slice A k c)) → (w1.alloc o).grownBy w8 x.ownBlock → (x.ownBlock = some g ∨ g = (w1.alloc o).heap.size) →
      LI w l v b d r (acc ++ [e]) n' f (.slice (some ⟨g, 0, none⟩) (acc.length + 1) cap) w8) := by
  have hg1 := gr_fr hgr hbw hF
  have hp := hgr.part (a := e) (x := .slice A k c) (w1 := w1) ⟨ho, hE⟩
  obtain ⟨xs, hown, hst⟩ := hg1.own
  refine ⟨xs, hown, fun o g cap w8 h8 hg hat => ?_⟩
  obtain ⟨h1, h2⟩ := hst e (.slice A k c) o g cap w8 hp h8 hg hat
  exact ⟨hR.belM hbw h2, h1, (hfr.trans hF).belB h2, ha, hf, by rw [List.length_append]; exact hle⟩

set_option maxRecDepth 100000 in
set_option maxHeartbeats 2000000 in
theorem rlist_no {w : World} {l : TL} {v : Value} {b : RB} {i d : Nat} (h : Rd w l v b i d) (hs : sgAt l i ≠ [40]) :
    Calls Tryz.prog 77 #[cpt b.c, fX b] w (PostL w l v b d (.bad i 7)) := by
  have HS := Lib.hid hs
  have H := Lib.hid h
  have pH := H.out.ptr
  clear h hs
  go_enter Tryz.func77, Tryz.ntmps77
  go_wp2_with fail
  refine (pass_no H.out HS.out).mono ?_
  rintro E w1 ⟨rfl, hf⟩
  have HF := Lib.hid hf
  clear hf
  go_wp2_with fail
  exact ⟨rfl, rfl, HF.out⟩
set_option maxRecDepth 100000 in
set_option maxHeartbeats 2000000 in
theorem rlist_none {w : World} {l : TL} {v : Value} {b : RB} {i d : Nat} (h : Rd w l v b i d) (hs : sgAt l i = [40]) (hs2 : sgAt l (i + 1) = [41]) :
    Calls Tryz.prog 77 #[cpt b.c, fX b] w (PostL w l v b d (.ok [] (i + 2))) := by
  have HS := Lib.hid hs
  have HS2 := Lib.hid hs2
  have H := Lib.hid h
  have pH := H.out.ptr
  clear h hs hs2
  go_enter Tryz.func77, Tryz.ntmps77
  go_wp2_with fail
  refine (pass_yes H.out HS.out (by simp)).mono ?_
  rintro E w1 ⟨rfl, hr, hf⟩
  have H1 := Lib.hid hr
  have pH1 := H1.out.ptr
  have HF := Lib.hid hf
  clear hr hf
  go_wp2_with fail
  refine (rsign_calls H1.out).mono ?_
  rintro E w2 ⟨rfl, hb⟩
  have H2 := Lib.hid (H1.out.bel hb)
  have pH2 := H2.out.ptr
  have F2 := Lib.hid (HF.out.trans (Fr.of (b := b) hb))
  rw [HS2.out]
  clear hb
  go_wp2_with fail
  refine (pass_yes H2.out HS2.out (by simp)).mono ?_
  rintro E w3 ⟨rfl, hr, hf⟩
  have H3 := Lib.hid hr
  have pH3 := H3.out.ptr
  have F3 := Lib.hid (F2.out.trans hf)
  clear hr hf
  go_wp2_with fail
  go_ret
  exact ⟨none, 0, rfl, er_nil _ _, H3.out, F3.out⟩

set_option maxRecDepth 100000 in
set_option maxHeartbeats 2000000 in
theorem rlist_first {w : World} {l : TL} {v : Value} {b : RB} {i d : Nat} (h : Rd w l v b i d) (hs : sgAt l i = [40]) (hs2 : sgAt l (i + 1) ≠ [41]) (j : Nat) (c : Int) (hB : binR l (i + 1) d 1 = .bad j c) :
    Calls Tryz.prog 77 #[cpt b.c, fX b] w (PostL w l v b d (.bad j c)) := by
  have HS := Lib.hid hs
  have q : (sgAt l (i + 1) == [41]) = false := beq_eq_false_iff_ne.2 hs2
  have H := Lib.hid h
  have pH := H.out.ptr
  have HB := Lib.hid hB
  clear h hs hs2 hB
  go_enter Tryz.func77, Tryz.ntmps77
  go_wp2_with fail
  refine (pass_yes H.out HS.out (by simp)).mono ?_
  rintro E w1 ⟨rfl, hr, hf⟩
  have H1 := Lib.hid hr
  have pH1 := H1.out.ptr
  have HF := Lib.hid hf
  clear hr hf
  go_wp2_with fail
  refine (rsign_calls H1.out).mono ?_
  rintro E w2 ⟨rfl, hb⟩
  have H2 := Lib.hid (H1.out.bel hb)
  have pH2 := H2.out.ptr
  have F2 := Lib.hid (HF.out.trans (Fr.of (b := b) hb))
  clear hb
  go_wp2_with fail
  have C := rexpression_calls H2.out
  rw [HB.out] at C
  refine C.mono ?_
  rintro E w3 ⟨rfl, hf⟩
  have F3 := Lib.hid (F2.out.trans hf)
  clear hf C
  go_wp2_with fail
  exact ⟨rfl, rfl, F3.out⟩

set_option maxRecDepth 100000 in
set_option maxHeartbeats 4000000 in
theorem rlist_many {w : World} {l : TL} {v : Value} {b : RB} {i d : Nat} (h : Rd w l v b i d) (hll : l.length ≤ 1000000) (hs : sgAt l i = [40]) (hs2 : sgAt l (i + 1) ≠ [41]) (e0 : Ex) (n0 : Nat) (hB : binR l (i + 1) d 1 = .ok e0 n0) (hn0 : i + 1 < n0) (r : ResL) (hr : r = aft l d l.length [e0] n0) :
    Calls Tryz.prog 77 #[cpt b.c, fX b] w (PostL w l v b d r) := by
  have HS := Lib.hid hs
  have q : (sgAt l (i + 1) == [41]) = false := beq_eq_false_iff_ne.2 hs2
  have H := Lib.hid h
  have pH := H.out.ptr
  have HB := Lib.hid hB
  have HR := Lib.hid hr
  have hbw := h.lt
  obtain ⟨i0, hi0, hz0, hz1, hz2⟩ := info_parts S3.infoE
  have HI0 := Lib.hid hi0
  have HZ0 := Lib.hid hz0
  have HZ1 := Lib.hid hz1
  have HZ2 := Lib.hid hz2
  clear h hs hs2 hB hr hi0 hz0 hz1 hz2
  go_enter Tryz.func77, Tryz.ntmps77
  go_wp2_with fail
  refine (pass_yes H.out HS.out (by simp)).mono ?_
  rintro E w1 ⟨rfl, hr, hf⟩
  have H1 := Lib.hid hr
  have pH1 := H1.out.ptr
  have HF := Lib.hid hf
  clear hr hf
  go_wp2_with fail
  refine (rsign_calls H1.out).mono ?_
  rintro E w2 ⟨rfl, hb⟩
  have H2 := Lib.hid (H1.out.bel hb)
  have pH2 := H2.out.ptr
  have F2 := Lib.hid (HF.out.trans (Fr.of (b := b) hb))
  clear hb
  go_wp2_with fail
  have C := rexpression_calls H2.out
  rw [HB.out] at C
  refine C.mono ?_
  rintro E w3 ⟨A, k, c, rfl, ho, hE, hr, hf⟩
  have hn1 := hr.hi
  obtain ⟨xs, hown, hst⟩ := LI.step (r := r) (acc := []) (x := .slice none 0 0) (f := l.length) hbw (S3.GrI.start S3.kE F2.out.size (fun _ => .bool false)) F2.out ho hE hr hf HR.out (by omega) (by simp; omega)
  have HOW := Lib.hid hown
  have HST := Lib.hid hst
  have hz3 := (F2.out.trans hf).size
  clear ho hE hr hf C hown hst
  go_wp2_with (at_builtin; go_loud (refine wpList_append_lies _ rfl (.tmp 11) (.tmp 14) 24 rfl w.heap.size 67 i0 _ 5 64 Tryz.underlying24 HI0.out HZ0.out HZ1.out HZ2.out rfl (by decide) (.slice none 0 0) 0 xs rfl (HOW.out.alloc _) ⟨w3.heap.size, 0, none⟩ 1 1 (S3.eC e0 (.slice A k c)) rfl rfl (news_new _ _ _ _ rfl) (by intro u hu; simp [S3.eC] at hu; rcases hu with rfl | rfl | rfl | rfl | rfl <;> rfl) (by decide) (by unfold maxLen; omega) (by omega) (by simp; omega) _ rfl ?_))
  intro g cap w8 hown8 hgr8 hat hlt8
  have HN := Lib.hid (HST.out _ g cap w8 hown8 hgr8 (by rcases hat with h | h; exact .inl h; exact .inr (by rw [h]; simp)))
  clear hown8 hgr8 hat hlt8 HOW HST H1 H2 F2 HF
  go_wp2_with fail
  go_loopw [5] (fun x wr => ∃ acc n f, Hid (LI w l v b d r acc n f x wr) ∧ ∃ Ax cx, x = .slice Ax acc.length cx) (fun _ wr => l.length - atOf b wr)
  case atStart => exact ⟨_, _, _, HN, _, _, rfl⟩
  case round =>
    clear HN
    obtain ⟨acc, n, f, HI, Ax, cx, hx⟩ := hrel
    have pHI := HI.out.rd.ptr
    have HX := Lib.hid hx
    clear hx
    have hnl0 := HI.out.rd.hi
    have hfu := HI.out.fuel
    have hacc := HI.out.le
    by_cases hc : sgAt l n = [44]
    · have hnl := sgAt_lt hc (by simp)
      have hq : (sgAt l n == [44]) = true := by rw [hc]; rfl
      obtain ⟨f, rfl⟩ : ∃ f', f = f' + 1 := ⟨f - 1, by omega⟩
      have haf := HI.out.af
      unfold aft at haf
      rw [if_pos hc, lstR_eq] at haf
      have hwin := binR_within l (n + 1) d 1 (by omega) (by omega)
      clear hc
      cases hE : binR l (n + 1) d 1 with
      | bad j c' =>
        rw [hE] at haf
        obtain rfl : r = .bad j c' := haf
        have HE := Lib.hid hE
        clear hE hwin
        go_wp2_with fail
        refine (rsign_calls HI.out.rd).mono ?_
        rintro E wa ⟨rfl, hb⟩
        have Ra := Lib.hid (HI.out.rd.bel hb)
        have pRa := Ra.out.ptr
        have Fa := Lib.hid (HI.out.fr.trans (Fr.of (b := b) hb))
        clear hb
        obtain ⟨p0, c0, c1, c2, f1, f2⟩ := Ra.out.cells
        go_wp2_with fail
        have Rb := Lib.hid (Ra.out.inc1 hnl)
        have pRb := Rb.out.ptr
        have Fb := Lib.hid (Fa.out.setA (.int .i64 ((n : Int) + 1)))
        generalize wa.setCell ⟨b.c, 1, none⟩ (.int .i64 ((n : Int) + 1)) = wb at *
        clear p0 c0 c1 c2 f1 f2 Ra Fa
        have C := rexpression_calls Rb.out
        rw [HE.out] at C
        refine C.mono ?_
        rintro E wc ⟨rfl, hf⟩
        have Fc := Lib.hid (Fb.out.trans hf)
        clear hf C
        go_wp2_with fail
        exact ⟨rfl, rfl, Fc.out⟩
      | ok e n' =>
        rw [hE] at haf hwin
        simp only [Res.within] at hwin
        have HAF := Lib.hid haf
        have HE := Lib.hid hE
        have HG := Lib.hid (fun (wa : World) (h : Fr b wr wa) => gr_fr HI.out.gr hbw h)
        have HM := Lib.hid (atOf_is HI.out.rd)
        clear hE haf
        go_wp2_with fail
        refine (rsign_calls HI.out.rd).mono ?_
        rintro E wa ⟨rfl, hb⟩
        have Ra := Lib.hid (HI.out.rd.bel hb)
        have pRa := Ra.out.ptr
        have Fa := Lib.hid (Fr.of (b := b) hb)
        clear hb
        obtain ⟨p0, c0, c1, c2, f1, f2⟩ := Ra.out.cells
        go_wp2_with fail
        have Rb := Lib.hid (Ra.out.inc1 hnl)
        have pRb := Rb.out.ptr
        have Fb := Lib.hid (Fa.out.setA (.int .i64 ((n : Int) + 1)))
        generalize wa.setCell ⟨b.c, 1, none⟩ (.int .i64 ((n : Int) + 1)) = wb at *
        clear p0 c0 c1 c2 f1 f2 Ra Fa
        have C := rexpression_calls Rb.out
        rw [HE.out] at C
        refine C.mono ?_
        rintro E wc ⟨A1, k1, c1, rfl, ho, hE, hr, hf⟩
        obtain ⟨ys, hown, hst⟩ := LI.step (r := r) (f := f) hbw (HG.out wb Fb.out) (HI.out.fr.trans Fb.out) ho hE hr hf HAF.out (by omega) (by omega)
        have HOW := Lib.hid hown
        have HST := Lib.hid hst
        have hzc := ((HI.out.fr.trans Fb.out).trans hf).size
        clear ho hE hr hf C hown hst HG
        go_wp2_with (at_builtin; go_loud (refine wpList_append_lies _ rfl (.tmp 26) (.tmp 29) 24 rfl w.heap.size 67 i0 _ 5 64 Tryz.underlying24 HI0.out HZ0.out HZ1.out HZ2.out rfl (by decide) u5 acc.length ys rfl (HOW.out.alloc _) ⟨wc.heap.size, 0, none⟩ 1 1 (S3.eC e (.slice A1 k1 c1)) rfl rfl (news_new _ _ _ _ rfl) (by intro u hu; simp [S3.eC] at hu; rcases hu with rfl | rfl | rfl | rfl | rfl <;> rfl) (by decide) (by unfold maxLen; omega) (by omega) (by simp; omega) _ rfl ?_))
        intro g8 cap8 w8 hown8 hgr8 hat hlt8
        have HN := Lib.hid (HST.out _ g8 cap8 w8 hown8 hgr8 (by rcases hat with h | h; exact .inl h; exact .inr (by rw [h]; simp)))
        have HA := Lib.hid (atOf_is HN.out.rd)
        have hn8 := HN.out.rd.hi
        clear hown8 hgr8 hat hlt8 HOW HST
        go_wp2_with fail
        go_roundw
        case rel => exact ⟨_, _, _, HN, _, _, by rw [List.length_append]; rfl⟩
        case measure => rw [HA.out, HM.out]; omega
    · have hq : (sgAt l n == [44]) = false := beq_eq_false_iff_ne.2 hc
      have haf := HI.out.af
      unfold aft at haf
      rw [if_neg hc] at haf
      have HER := Lib.hid (er_gr HI.out.gr (by omega))
      clear hc
      obtain rfl := HX.out
      by_cases hp : sgAt l n = [41]
      · rw [if_pos hp] at haf
        subst haf
        have HP := Lib.hid hp
        clear hp
        go_wp2_with fail
        refine (rsign_calls HI.out.rd).mono ?_
        rintro E wa ⟨rfl, hb⟩
        have Ra := Lib.hid (HI.out.rd.bel hb)
        have pRa := Ra.out.ptr
        have Fa := Lib.hid (HI.out.fr.trans (Fr.of (b := b) hb))
        have Ea := Lib.hid (er_bel HER.out hb)
        clear hb
        go_wp2_with fail
        refine (pass_yes Ra.out HP.out (by simp)).mono ?_
        rintro E wb ⟨rfl, hr, hf⟩
        have Rb := Lib.hid hr
        have pRb := Rb.out.ptr
        have Fb := Lib.hid (Fa.out.trans hf)
        have Eb := Lib.hid (er_fr Ea.out hbw hf)
        clear hr hf
        go_wp2_with fail
        go_ret
        exact ⟨_, _, rfl, Eb.out, Rb.out, Fb.out⟩
      · rw [if_neg hp] at haf
        subst haf
        have HP := Lib.hid hp
        clear hp
        go_wp2_with fail
        refine (rsign_calls HI.out.rd).mono ?_
        rintro E wa ⟨rfl, hb⟩
        have Ra := Lib.hid (HI.out.rd.bel hb)
        have pRa := Ra.out.ptr
        have Fa := Lib.hid (HI.out.fr.trans (Fr.of (b := b) hb))
        clear hb
        go_wp2_with fail
        refine (pass_no Ra.out HP.out).mono ?_
        rintro E wb ⟨rfl, hf⟩
        have Fb := Lib.hid (Fa.out.trans hf)
        clear hf
        go_wp2_with fail
        exact ⟨rfl, rfl, Fb.out⟩
end Go.Proofs.YtipepljmfgjbpaaGreatDoor.E5
