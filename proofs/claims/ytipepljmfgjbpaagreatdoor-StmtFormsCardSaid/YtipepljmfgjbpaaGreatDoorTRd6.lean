/-
  The reader of statements: what stands behind a name and a bracket: contracts. Written by gen6_trd6.py.
  The reader of statements: what begins with a name: contract. Written by gen6_trd7.py.
  The reader of statements: blocks in statements, while, if: contracts, the blocks' given. Written by gen6_rec.py.
  The reader of statements: the six openings; a statement: contracts, the blocks' given. Written by gen6_stm.py.
  The reader of statements: a statement and a block, whatever they hold: contracts. Written by gen6_blk.py.
-/
import Derived.Test.YtipepljmfgjbpaaGreatDoorTRd
import Derived.BigRegion
import Derived.Deep.RegionWith
namespace Go.Proofs.YtipepljmfgjbpaaGreatDoor.E6
open Go Go.RowKit Go.Proofs.YtipepljmfgjbpaaGreatDoor Go.Proofs.YtipepljmfgjbpaaGreatDoor.E5

theorem Stt.dr {w wk : World} {l : TL} {v : Value} {b : RB} {i d : Nat} (h : Stt w l v b i d wk) : Stt w l v b i d wk.drew := h.bel (Below.refl _ wk).drew
abbrev Row5 (w : World) (p : Nat) (a0 a1 a2 a3 a4 : Value) : Prop := w.heap[p]? = some (.cells #[a0, a1, a2, a3, a4] 67 (0, 0))
theorem row5_new (w : World) (a0 a1 a2 a3 a4 : Value) : Row5 (w.alloc (.cells #[a0, a1, a2, a3, a4] 67)) w.heap.size a0 a1 a2 a3 a4 := heap_alloc_new w _
set_option maxRecDepth 100000 in
set_option maxHeartbeats 2000000 in
theorem st_bad1 {w : World} {l : TL} {v : Value} {b : RB} {i d : Nat} (h : Sd w l v b i d) (x : Bytes) (j : Nat) (k : Int) (hp : parseR l i 0 = .bad j k) :
    Calls Tryz.prog 52 #[rp b, .string (B x)] w (PostS w l v b d (.bad j k)) := by
  have Y0 := Lib.hid (Stt.init h)
  have N := Lib.hid (rexp_bad Y0.out.rd j k hp)
  have hbw := h.rd.lt
  clear h hp
  go_enter Tryz.func52, Tryz.ntmps52
  go_wp2_with fail
  refine (N.out).mono ?_
  rintro E wz ⟨rfl, hf⟩
  have HF := Lib.hid hf
  clear hf
  go_wp2_with fail
  exact ⟨rfl, rfl, Y0.out.fr.trans HF.out⟩
set_option maxRecDepth 100000 in
set_option maxHeartbeats 2000000 in
theorem st_no1 {w : World} {l : TL} {v : Value} {b : RB} {i d : Nat} (h : Sd w l v b i d) (x : Bytes) (e : Ex) (n : Nat) (hp : parseR l i 0 = .ok e n) (hs : sgAt l n ≠ [93]) :
    Calls Tryz.prog 52 #[rp b, .string (B x)] w (PostS w l v b d (.bad n 7)) := by
  have Y0 := Lib.hid (Stt.init h)
  have N := Lib.hid (rexp_ok Y0.out.rd e n hp)
  have hbw := h.rd.lt
  clear h hp
  go_enter Tryz.func52, Tryz.ntmps52
  go_wp2_with fail
  refine N.out.mono ?_
  rintro E w1 ⟨A, k1, c1', rfl, ho, hE, hr, hf⟩
  have Y1 := Lib.hid (Y0.out.mv hr hf)
  have HO := Lib.hid ho
  have HE := Lib.hid (er_bel (er_mono hE Y0.out.le (Nat.le_refl _)) (S3.bal w1 (S3.eO e (.slice A k1 c1'))))
  have P := Lib.hid (fun a0 a1 a2 a3 a4 => row5_new w1 a0 a1 a2 a3 a4)
  have pH1 := hr.ptr
  have hbw1 := hr.lt
  have hz1 := S3.sz1 w1
  have hw1 := Y1.out.le
  clear hr hf hE ho N
  have M := Lib.hid (fun o => pass_no (Y1.out.al o).rd hs)
  clear hs
  go_wp2_with fail
  refine (M.out _).mono ?_
  rintro E wz ⟨rfl, hf⟩
  have HF := Lib.hid hf
  clear hf
  go_wp2_with fail
  exact ⟨rfl, rfl, (Y1.out.al _).fr.trans HF.out⟩
set_option maxRecDepth 100000 in
set_option maxHeartbeats 2000000 in
theorem st_no2 {w : World} {l : TL} {v : Value} {b : RB} {i d : Nat} (h : Sd w l v b i d) (x : Bytes) (e : Ex) (n : Nat) (hp : parseR l i 0 = .ok e n) (hs : sgAt l n = [93]) (hs2 : sgAt l (n + 1) ≠ [61]) :
    Calls Tryz.prog 52 #[rp b, .string (B x)] w (PostS w l v b d (.bad (n + 1) 7)) := by
  have Y0 := Lib.hid (Stt.init h)
  have N := Lib.hid (rexp_ok Y0.out.rd e n hp)
  have hbw := h.rd.lt
  clear h hp
  go_enter Tryz.func52, Tryz.ntmps52
  go_wp2_with fail
  refine N.out.mono ?_
  rintro E w1 ⟨A, k1, c1', rfl, ho, hE, hr, hf⟩
  have Y1 := Lib.hid (Y0.out.mv hr hf)
  have HO := Lib.hid ho
  have HE := Lib.hid (er_bel (er_mono hE Y0.out.le (Nat.le_refl _)) (S3.bal w1 (S3.eO e (.slice A k1 c1'))))
  have P := Lib.hid (fun a0 a1 a2 a3 a4 => row5_new w1 a0 a1 a2 a3 a4)
  have pH1 := hr.ptr
  have hbw1 := hr.lt
  have hz1 := S3.sz1 w1
  have hw1 := Y1.out.le
  clear hr hf hE ho N
  have M := Lib.hid (fun o => pass_yes (Y1.out.al o).rd hs (by simp))
  clear hs
  go_wp2_with fail
  refine (M.out _).mono ?_
  rintro E w2 ⟨rfl, hr, hf⟩
  have Y2 := Lib.hid ((Y1.out.al _).mv hr hf)
  have P2 := Lib.hid ((hf.block w1.heap.size (by rw [hz1]; omega) hbw1).trans (P.out _ _ _ _ _))
  have HE2 := Lib.hid (er_fr HE.out (by omega) hf)
  have hp2 : w1.heap.size < w2.heap.size := row5_lt P2.out
  have pH2 := hr.ptr
  have hbw2 := hr.lt
  clear hr hf M P HE hz1
  have M := Lib.hid (pass_no Y2.out.rd hs2)
  clear hs2
  go_wp2_with fail
  refine (M.out).mono ?_
  rintro E wz ⟨rfl, hf⟩
  have HF := Lib.hid hf
  clear hf
  go_wp2_with fail
  exact ⟨rfl, rfl, Y2.out.fr.trans HF.out⟩
set_option maxRecDepth 100000 in
set_option maxHeartbeats 2000000 in
theorem st_bad2 {w : World} {l : TL} {v : Value} {b : RB} {i d : Nat} (h : Sd w l v b i d) (x : Bytes) (e : Ex) (n : Nat) (hp : parseR l i 0 = .ok e n) (hs : sgAt l n = [93]) (hs2 : sgAt l (n + 1) = [61]) (j : Nat) (k : Int) (hq : parseR l (n + 1 + 1) 0 = .bad j k) :
    Calls Tryz.prog 52 #[rp b, .string (B x)] w (PostS w l v b d (.bad j k)) := by
  have Y0 := Lib.hid (Stt.init h)
  have N := Lib.hid (rexp_ok Y0.out.rd e n hp)
  have hbw := h.rd.lt
  clear h hp
  go_enter Tryz.func52, Tryz.ntmps52
  go_wp2_with fail
  refine N.out.mono ?_
  rintro E w1 ⟨A, k1, c1', rfl, ho, hE, hr, hf⟩
  have Y1 := Lib.hid (Y0.out.mv hr hf)
  have HO := Lib.hid ho
  have HE := Lib.hid (er_bel (er_mono hE Y0.out.le (Nat.le_refl _)) (S3.bal w1 (S3.eO e (.slice A k1 c1'))))
  have P := Lib.hid (fun a0 a1 a2 a3 a4 => row5_new w1 a0 a1 a2 a3 a4)
  have pH1 := hr.ptr
  have hbw1 := hr.lt
  have hz1 := S3.sz1 w1
  have hw1 := Y1.out.le
  clear hr hf hE ho N
  have M := Lib.hid (fun o => pass_yes (Y1.out.al o).rd hs (by simp))
  clear hs
  go_wp2_with fail
  refine (M.out _).mono ?_
  rintro E w2 ⟨rfl, hr, hf⟩
  have Y2 := Lib.hid ((Y1.out.al _).mv hr hf)
  have P2 := Lib.hid ((hf.block w1.heap.size (by rw [hz1]; omega) hbw1).trans (P.out _ _ _ _ _))
  have HE2 := Lib.hid (er_fr HE.out (by omega) hf)
  have hp2 : w1.heap.size < w2.heap.size := row5_lt P2.out
  have pH2 := hr.ptr
  have hbw2 := hr.lt
  clear hr hf M P HE hz1
  have M := Lib.hid (pass_yes Y2.out.rd hs2 (by simp))
  clear hs2
  go_wp2_with fail
  refine M.out.mono ?_
  rintro E w3 ⟨rfl, hr, hf⟩
  have Y3 := Lib.hid (Y2.out.mv hr hf)
  have P3 := Lib.hid ((hf.block w1.heap.size hp2 hbw1).trans P2.out)
  have HE3 := Lib.hid (er_fr HE2.out (by omega) hf)
  have hp3 : w1.heap.size < w3.heap.size := row5_lt P3.out
  have pH3 := hr.ptr
  have hbw3 := hr.lt
  clear hr hf M P2 HE2
  obtain ⟨m0, m1, m2, m3, m4⟩ := row5_facts P3.out
  have M := Lib.hid (rexp_bad Y3.out.dr.rd j k hq)
  clear hq
  go_wp2_with fail
  go_region_with (go_at_call 62; refine M.out.mono ?_; rintro E wz ⟨rfl, hf⟩; have HF := Lib.hid hf; clear hf; go_simp; refine fake_any (by exact ⟨rfl, rfl, Y3.out.dr.fr.trans HF.out⟩) ?_)
  all_goals exact trivial
set_option maxRecDepth 100000 in
set_option maxHeartbeats 2000000 in
theorem st_end_bad {w : World} {l : TL} {v : Value} {b : RB} {i d : Nat} (h : Sd w l v b i d) (x : Bytes) (hx : x.length ≤ 9223372036854775807) (e : Ex) (n : Nat) (hp : parseR l i 0 = .ok e n) (hs : sgAt l n = [93]) (hs2 : sgAt l (n + 1) = [61]) (f : Ex) (n' : Nat) (hq : parseR l (n + 1 + 1) 0 = .ok f n') (j : Nat) (k : Int) (hR : endS l (sStore x e f) n' = .bad j k) :
    Calls Tryz.prog 52 #[rp b, .string (B x)] w (PostS w l v b d (.bad j k)) := by
  have Y0 := Lib.hid (Stt.init h)
  have N := Lib.hid (rexp_ok Y0.out.rd e n hp)
  have hbw := h.rd.lt
  clear h hp
  go_enter Tryz.func52, Tryz.ntmps52
  go_wp2_with fail
  refine N.out.mono ?_
  rintro E w1 ⟨A, k1, c1', rfl, ho, hE, hr, hf⟩
  have Y1 := Lib.hid (Y0.out.mv hr hf)
  have HO := Lib.hid ho
  have HE := Lib.hid (er_bel (er_mono hE Y0.out.le (Nat.le_refl _)) (S3.bal w1 (S3.eO e (.slice A k1 c1'))))
  have P := Lib.hid (fun a0 a1 a2 a3 a4 => row5_new w1 a0 a1 a2 a3 a4)
  have pH1 := hr.ptr
  have hbw1 := hr.lt
  have hz1 := S3.sz1 w1
  have hw1 := Y1.out.le
  clear hr hf hE ho N
  have M := Lib.hid (fun o => pass_yes (Y1.out.al o).rd hs (by simp))
  clear hs
  go_wp2_with fail
  refine (M.out _).mono ?_
  rintro E w2 ⟨rfl, hr, hf⟩
  have Y2 := Lib.hid ((Y1.out.al _).mv hr hf)
  have P2 := Lib.hid ((hf.block w1.heap.size (by rw [hz1]; omega) hbw1).trans (P.out _ _ _ _ _))
  have HE2 := Lib.hid (er_fr HE.out (by omega) hf)
  have hp2 : w1.heap.size < w2.heap.size := row5_lt P2.out
  have pH2 := hr.ptr
  have hbw2 := hr.lt
  clear hr hf M P HE hz1
  have M := Lib.hid (pass_yes Y2.out.rd hs2 (by simp))
  clear hs2
  go_wp2_with fail
  refine M.out.mono ?_
  rintro E w3 ⟨rfl, hr, hf⟩
  have Y3 := Lib.hid (Y2.out.mv hr hf)
  have P3 := Lib.hid ((hf.block w1.heap.size hp2 hbw1).trans P2.out)
  have HE3 := Lib.hid (er_fr HE2.out (by omega) hf)
  have hp3 : w1.heap.size < w3.heap.size := row5_lt P3.out
  have pH3 := hr.ptr
  have hbw3 := hr.lt
  clear hr hf M P2 HE2
  obtain ⟨m0, m1, m2, m3, m4⟩ := row5_facts P3.out
  have M := Lib.hid (rexp_ok Y3.out.dr.rd f n' hq)
  have hx := Lib.hid hx
  have HR := Lib.hid hR
  clear hq hR
  go_wp2_with fail
  go_region_with (first
    | (go_at_call 62; refine M.out.mono ?_; rintro E w4 ⟨A', k', c', rfl, ho, hE, hr, hf⟩; have Y4 := Lib.hid (Y3.out.dr.mv hr hf); have HO2 := Lib.hid ho; have hf' := (Fr.of (b := b) (Below.refl w3.heap.size w3).drew).trans hf; have P4 := Lib.hid ((hf'.block w1.heap.size hp3 hbw1).trans P3.out); obtain ⟨q0, q1, q2, q3, q4⟩ := row5_facts P4.out; have HA := Lib.hid (er_fr HE3.out (by omega) hf'); have HB := Lib.hid (er_mono (n' := w.heap.size + 1) hE Y3.out.le (Nat.le_refl _)); have hp4 : w1.heap.size < w4.heap.size := row5_lt P4.out; clear hr hf hf' ho hE)
    | (go_at_call 53; have C := closed_calls (Y4.out.al (eO2 e (.slice A k1 c1') f (.slice A' k' c'))).rd (n := w.heap.size + 1) (by omega) (sStore x e f) (.slice (some ⟨w4.heap.size, 0, none⟩) 2 2) (.slice none 0 0) (.slice none 0 0) ⟨(okS_of ⟨by show (0 : Int) ≤ 3; decide, by show (3 : Int) ≤ 10; decide⟩ rfl ⟨by show (0 : Int) ≤ 0; decide, by show (0 : Int) ≤ 3; decide⟩ hx.out (by simp)), er_two HO.out HO2.out Y4.out.le HA.out HB.out, sr_nil _ _, sr_nil _ _⟩; rw [HR.out] at C; refine C.mono ?_; clear C; rintro E wz ⟨rfl, hf⟩; have HF := Lib.hid hf; clear hf; go_simp; refine fake_any (by exact ⟨rfl, rfl, (Y4.out.al _).fr.trans HF.out⟩) ?_))
  all_goals exact trivial
set_option maxRecDepth 100000 in
set_option maxHeartbeats 2000000 in
theorem st_end_ok {w : World} {l : TL} {v : Value} {b : RB} {i d : Nat} (h : Sd w l v b i d) (x : Bytes) (hx : x.length ≤ 9223372036854775807) (e : Ex) (n : Nat) (hp : parseR l i 0 = .ok e n) (hs : sgAt l n = [93]) (hs2 : sgAt l (n + 1) = [61]) (f : Ex) (n' : Nat) (hq : parseR l (n + 1 + 1) 0 = .ok f n') (s : St) (m : Nat) (hR : endS l (sStore x e f) n' = .ok s m) :
    Calls Tryz.prog 52 #[rp b, .string (B x)] w (PostS w l v b d (.ok s m)) := by
  have Y0 := Lib.hid (Stt.init h)
  have N := Lib.hid (rexp_ok Y0.out.rd e n hp)
  have hbw := h.rd.lt
  clear h hp
  go_enter Tryz.func52, Tryz.ntmps52
  go_wp2_with fail
  refine N.out.mono ?_
  rintro E w1 ⟨A, k1, c1', rfl, ho, hE, hr, hf⟩
  have Y1 := Lib.hid (Y0.out.mv hr hf)
  have HO := Lib.hid ho
  have HE := Lib.hid (er_bel (er_mono hE Y0.out.le (Nat.le_refl _)) (S3.bal w1 (S3.eO e (.slice A k1 c1'))))
  have P := Lib.hid (fun a0 a1 a2 a3 a4 => row5_new w1 a0 a1 a2 a3 a4)
  have pH1 := hr.ptr
  have hbw1 := hr.lt
  have hz1 := S3.sz1 w1
  have hw1 := Y1.out.le
  clear hr hf hE ho N
  have M := Lib.hid (fun o => pass_yes (Y1.out.al o).rd hs (by simp))
  clear hs
  go_wp2_with fail
  refine (M.out _).mono ?_
  rintro E w2 ⟨rfl, hr, hf⟩
  have Y2 := Lib.hid ((Y1.out.al _).mv hr hf)
  have P2 := Lib.hid ((hf.block w1.heap.size (by rw [hz1]; omega) hbw1).trans (P.out _ _ _ _ _))
  have HE2 := Lib.hid (er_fr HE.out (by omega) hf)
  have hp2 : w1.heap.size < w2.heap.size := row5_lt P2.out
  have pH2 := hr.ptr
  have hbw2 := hr.lt
  clear hr hf M P HE hz1
  have M := Lib.hid (pass_yes Y2.out.rd hs2 (by simp))
  clear hs2
  go_wp2_with fail
  refine M.out.mono ?_
  rintro E w3 ⟨rfl, hr, hf⟩
  have Y3 := Lib.hid (Y2.out.mv hr hf)
  have P3 := Lib.hid ((hf.block w1.heap.size hp2 hbw1).trans P2.out)
  have HE3 := Lib.hid (er_fr HE2.out (by omega) hf)
  have hp3 : w1.heap.size < w3.heap.size := row5_lt P3.out
  have pH3 := hr.ptr
  have hbw3 := hr.lt
  clear hr hf M P2 HE2
  obtain ⟨m0, m1, m2, m3, m4⟩ := row5_facts P3.out
  have M := Lib.hid (rexp_ok Y3.out.dr.rd f n' hq)
  have hx := Lib.hid hx
  have HR := Lib.hid hR
  clear hq hR
  go_wp2_with fail
  go_region_with (first
    | (go_at_call 62; refine M.out.mono ?_; rintro E w4 ⟨A', k', c', rfl, ho, hE, hr, hf⟩; have Y4 := Lib.hid (Y3.out.dr.mv hr hf); have HO2 := Lib.hid ho; have hf' := (Fr.of (b := b) (Below.refl w3.heap.size w3).drew).trans hf; have P4 := Lib.hid ((hf'.block w1.heap.size hp3 hbw1).trans P3.out); obtain ⟨q0, q1, q2, q3, q4⟩ := row5_facts P4.out; have HA := Lib.hid (er_fr HE3.out (by omega) hf'); have HB := Lib.hid (er_mono (n' := w.heap.size + 1) hE Y3.out.le (Nat.le_refl _)); have hp4 : w1.heap.size < w4.heap.size := row5_lt P4.out; clear hr hf hf' ho hE)
    | (go_at_call 53; have C := closed_calls (Y4.out.al (eO2 e (.slice A k1 c1') f (.slice A' k' c'))).rd (n := w.heap.size + 1) (by omega) (sStore x e f) (.slice (some ⟨w4.heap.size, 0, none⟩) 2 2) (.slice none 0 0) (.slice none 0 0) ⟨(okS_of ⟨by show (0 : Int) ≤ 3; decide, by show (3 : Int) ≤ 10; decide⟩ rfl ⟨by show (0 : Int) ≤ 0; decide, by show (0 : Int) ≤ 3; decide⟩ hx.out (by simp)), er_two HO.out HO2.out Y4.out.le HA.out HB.out, sr_nil _ _, sr_nil _ _⟩; rw [HR.out] at C; refine C.mono ?_; clear C; rintro E w5 ⟨rfl, hS, hr, hf⟩; have Y5 := Lib.hid ((Y4.out.al _).mv hr hf); have HS := Lib.hid hS; have hqE := Y5.out.q.lt; clear hS hr hf; obtain ⟨z0, z1, z2, z3, z4, z5, z6, z7, r0, r1, r2, r3, r4, r5, r6, r7, y0, y1, y2, y3, y4, y5, y6, y7⟩ := Y5.out.q.facts))
  all_goals go_wp2_with fail
  all_goals exact bodyPost_ret (v := S3.sV s (.slice (some ⟨w4.heap.size, 0, none⟩) 2 2) (.slice none 0 0) (.slice none 0 0)) (by simp [results, Tryz.results52, go_sem, r0, r1, r2, r3, r4, r5, r6, r7]) rfl (Y5.out.done HS.out)
set_option maxRecDepth 100000 in
set_option maxHeartbeats 2000000 in
theorem st_calls {w : World} {l : TL} {v : Value} {b : RB} {i d : Nat} (h : Sd w l v b i d) (x : Bytes) (hx : x.length ≤ 9223372036854775807) :
    Calls Tryz.prog 52 #[rp b, .string (B x)] w (PostS w l v b d (storS l x i)) := by
  unfold storS
  cases hp : parseR l i 0 with
  | bad j k => exact st_bad1 h x j k hp
  | ok e n =>
    simp only
    by_cases hs : sgAt l n = [93]
    · rw [if_pos hs]
      by_cases hs2 : sgAt l (n + 1) = [61]
      · rw [if_pos hs2]
        unfold valS
        cases hq : parseR l (n + 2) 0 with
        | bad j k => exact st_bad2 h x e n hp hs hs2 j k hq
        | ok f n' =>
          cases hR : endS l (sStore x e f) n' with
          | bad j k => simp only; rw [hR]; exact st_end_bad h x hx e n hp hs hs2 f n' hq j k hR
          | ok s m => simp only; rw [hR]; exact st_end_ok h x hx e n hp hs hs2 f n' hq s m hR
      · rw [if_neg hs2]; exact st_no2 h x e n hp hs hs2
    · rw [if_neg hs]; exact st_no1 h x e n hp hs
end Go.Proofs.YtipepljmfgjbpaaGreatDoor.E6

namespace Go.Proofs.YtipepljmfgjbpaaGreatDoor.E6
open Go Go.RowKit Go.Proofs.YtipepljmfgjbpaaGreatDoor Go.Proofs.YtipepljmfgjbpaaGreatDoor.E5

set_option maxRecDepth 100000 in
set_option maxHeartbeats 2000000 in
theorem nam_no {w : World} {l : TL} {v : Value} {b : RB} {i d : Nat} (h : Sd w l v b i d) (hn : nmTok (tkAt l i) = false) :
    Calls Tryz.prog 34 #[rp b] w (PostS w l v b d (.bad i 7)) := by
  have Y0 := Lib.hid (Stt.init h)
  have N := Lib.hid (rname_no Y0.out.rd hn)
  have pH := h.rd.ptr
  have hbw := h.rd.lt
  clear h hn
  go_enter Tryz.func34, Tryz.ntmps34
  go_wp2_with fail
  refine (N.out).mono ?_
  rintro E wz ⟨rfl, hf⟩
  have HF := Lib.hid hf
  clear hf
  go_wp2_with fail
  exact ⟨rfl, rfl, Y0.out.fr.trans HF.out⟩
set_option maxRecDepth 100000 in
set_option maxHeartbeats 2000000 in
theorem nam_asg {w : World} {l : TL} {v : Value} {b : RB} {i d : Nat} (h : Sd w l v b i d) (hll : l.length ≤ 1000000) (hn : nmTok (tkAt l i) = true) (n1 : Nat) (hn1 : n1 = i + 1) (hs : sgAt l n1 = [61]) :
    Calls Tryz.prog 34 #[rp b] w (PostS w l v b d (asgS l (tkAt l i).2 (n1 + 1))) := by
  have HN1 := Lib.hid hn1
  clear hn1
  have q : (sgAt l n1 == [61]) = true := by rw [hs]; rfl
  have hi := sgAt_lt hs (by simp)
  clear hs
  have Y0 := Lib.hid (Stt.init h)
  have N := Lib.hid (rname_yes Y0.out.rd hn)
  have pH := h.rd.ptr
  have hx := Lib.hid (h.rd.text i)
  have hbw := h.rd.lt
  have HLL := Lib.hid hll
  clear h hn hll
  generalize (tkAt l i).2 = x at *
  obtain ⟨R, hR⟩ : ∃ R, R = asgS l x (n1 + 1) := ⟨_, rfl⟩
  rw [← hR]
  have HR := Lib.hid hR
  clear hR
  go_enter Tryz.func34, Tryz.ntmps34
  go_wp2_with fail
  refine (N.out).mono ?_
  rintro E w1 ⟨rfl, hr, hf⟩
  have Y1 := Lib.hid (Y0.out.mv hr hf)
  have pH1 := Y1.out.rd.ptr
  have hbw1 := Y1.out.rd.lt
  clear hr hf
  clear N
  have Y1 := Lib.hid (HN1.out ▸ Y1.out : Stt w l v b n1 d w1)
  have N := Lib.hid (rsign_calls Y1.out.rd)
  go_wp2_with fail
  refine (N.out).mono ?_
  rintro E w2 ⟨rfl, hb2⟩
  have Y2 := Lib.hid (Y1.out.bel hb2)
  have pH2 := Y2.out.rd.ptr
  have hbw2 := Y2.out.rd.lt
  clear N hb2
  generalize sgAt l n1 = t at *
  have hlen := Y2.out.rd.len
  obtain ⟨p0, c0, c1, c2, f1, f2⟩ := Y2.out.rd.cells
  go_wp2_with fail
  have Y3 := Lib.hid (Y2.out.inc hi)
  have pH3 := Y3.out.rd.ptr
  have hbw3 := Y3.out.rd.lt
  clear p0 c0 c1 c2 f1 f2
  generalize w2.setCell ⟨b.c, 1, none⟩ (.int .i64 ((n1 : Nat) + 1 : Int)) = w3 at *
  have C := asg_calls Y3.out.sd HLL.out x hx.out
  rw [← HR.out] at C
  have C := Lib.hid C
  clear HR
  refine C.out.mono ?_
  intro E w4 hP
  cases R with
  | bad j c =>
    obtain ⟨rfl, hf⟩ := hP
    have HF := Lib.hid hf
    clear hf C
    go_wp2_with fail
    exact ⟨rfl, rfl, Y3.out.fr.trans HF.out⟩
  | ok s m =>
    obtain ⟨va, vb, ve, rfl, hS, hr, hf⟩ := hP
    obtain ⟨Aa, ca, rfl⟩ := hS.a.slice
    obtain ⟨Ab, cb, rfl⟩ := hS.b.slice
    obtain ⟨Ae, ce, rfl⟩ := hS.e.slice
    have SE := Lib.hid (Y3.out.mv hr hf)
    have HS := Lib.hid (hS.mono (n' := w.heap.size + 1) Y3.out.le (Nat.le_refl _))
    have hqE := SE.out.q.lt
    clear hf hr hS C
    obtain ⟨z0, z1, z2, z3, z4, z5, z6, z7, r0, r1, r2, r3, r4, r5, r6, r7, y0, y1, y2, y3, y4, y5, y6, y7⟩ := SE.out.q.facts
    go_wp2_with fail
    exact bodyPost_ret (v := S3.sV s (.slice Aa s.args.length ca) (.slice Ab s.body.length cb) (.slice Ae s.els.length ce)) (by simp [results, Tryz.results34, go_sem, r0, r1, r2, r3, r4, r5, r6, r7]) rfl (SE.out.done HS.out)
set_option maxRecDepth 100000 in
set_option maxHeartbeats 2000000 in
theorem nam_sto {w : World} {l : TL} {v : Value} {b : RB} {i d : Nat} (h : Sd w l v b i d) (hll : l.length ≤ 1000000) (hn : nmTok (tkAt l i) = true) (n1 : Nat) (hn1 : n1 = i + 1) (hs : sgAt l n1 = [91]) :
    Calls Tryz.prog 34 #[rp b] w (PostS w l v b d (storS l (tkAt l i).2 (n1 + 1))) := by
  have HN1 := Lib.hid hn1
  clear hn1
  have q : (sgAt l n1 == [61]) = false := by rw [hs]; rfl
  have q2 : (sgAt l n1 == [91]) = true := by rw [hs]; rfl
  have hi := sgAt_lt hs (by simp)
  clear hs
  have Y0 := Lib.hid (Stt.init h)
  have N := Lib.hid (rname_yes Y0.out.rd hn)
  have pH := h.rd.ptr
  have hx := Lib.hid (h.rd.text i)
  have hbw := h.rd.lt
  have HLL := Lib.hid hll
  clear h hn hll
  generalize (tkAt l i).2 = x at *
  obtain ⟨R, hR⟩ : ∃ R, R = storS l x (n1 + 1) := ⟨_, rfl⟩
  rw [← hR]
  have HR := Lib.hid hR
  clear hR
  go_enter Tryz.func34, Tryz.ntmps34
  go_wp2_with fail
  refine (N.out).mono ?_
  rintro E w1 ⟨rfl, hr, hf⟩
  have Y1 := Lib.hid (Y0.out.mv hr hf)
  have pH1 := Y1.out.rd.ptr
  have hbw1 := Y1.out.rd.lt
  clear hr hf
  clear N
  have Y1 := Lib.hid (HN1.out ▸ Y1.out : Stt w l v b n1 d w1)
  have N := Lib.hid (rsign_calls Y1.out.rd)
  go_wp2_with fail
  refine (N.out).mono ?_
  rintro E w2 ⟨rfl, hb2⟩
  have Y2 := Lib.hid (Y1.out.bel hb2)
  have pH2 := Y2.out.rd.ptr
  have hbw2 := Y2.out.rd.lt
  clear N hb2
  generalize sgAt l n1 = t at *
  have hlen := Y2.out.rd.len
  obtain ⟨p0, c0, c1, c2, f1, f2⟩ := Y2.out.rd.cells
  go_wp2_with fail
  have Y3 := Lib.hid (Y2.out.inc hi)
  have pH3 := Y3.out.rd.ptr
  have hbw3 := Y3.out.rd.lt
  clear p0 c0 c1 c2 f1 f2
  generalize w2.setCell ⟨b.c, 1, none⟩ (.int .i64 ((n1 : Nat) + 1 : Int)) = w3 at *
  have C := st_calls Y3.out.sd x hx.out
  rw [← HR.out] at C
  have C := Lib.hid C
  clear HR
  refine C.out.mono ?_
  intro E w4 hP
  cases R with
  | bad j c =>
    obtain ⟨rfl, hf⟩ := hP
    have HF := Lib.hid hf
    clear hf C
    go_wp2_with fail
    exact ⟨rfl, rfl, Y3.out.fr.trans HF.out⟩
  | ok s m =>
    obtain ⟨va, vb, ve, rfl, hS, hr, hf⟩ := hP
    obtain ⟨Aa, ca, rfl⟩ := hS.a.slice
    obtain ⟨Ab, cb, rfl⟩ := hS.b.slice
    obtain ⟨Ae, ce, rfl⟩ := hS.e.slice
    have SE := Lib.hid (Y3.out.mv hr hf)
    have HS := Lib.hid (hS.mono (n' := w.heap.size + 1) Y3.out.le (Nat.le_refl _))
    have hqE := SE.out.q.lt
    clear hf hr hS C
    obtain ⟨z0, z1, z2, z3, z4, z5, z6, z7, r0, r1, r2, r3, r4, r5, r6, r7, y0, y1, y2, y3, y4, y5, y6, y7⟩ := SE.out.q.facts
    go_wp2_with fail
    exact bodyPost_ret (v := S3.sV s (.slice Aa s.args.length ca) (.slice Ab s.body.length cb) (.slice Ae s.els.length ce)) (by simp [results, Tryz.results34, go_sem, r0, r1, r2, r3, r4, r5, r6, r7]) rfl (SE.out.done HS.out)
set_option maxRecDepth 100000 in
set_option maxHeartbeats 2000000 in
theorem nam_call_bad {w : World} {l : TL} {v : Value} {b : RB} {i d : Nat} (h : Sd w l v b i d) (hll : l.length ≤ 1000000) (hn : nmTok (tkAt l i) = true) (hs : sgAt l (i + 1) ≠ [61]) (hs2 : sgAt l (i + 1) ≠ [91]) (j : Nat) (k : Int) (hp : listR l (i + 1) 0 = .bad j k) :
    Calls Tryz.prog 34 #[rp b] w (PostS w l v b d (.bad j k)) := by
  have q : (sgAt l (i + 1) == [61]) = false := beq_eq_false_iff_ne.2 hs
  have q2 : (sgAt l (i + 1) == [91]) = false := beq_eq_false_iff_ne.2 hs2
  clear hs hs2
  have Y0 := Lib.hid (Stt.init h)
  have N := Lib.hid (rname_yes Y0.out.rd hn)
  have pH := h.rd.ptr
  have hbw := h.rd.lt
  have HLL := Lib.hid hll
  clear h hn hll
  generalize (tkAt l i).2 = x at *
  go_enter Tryz.func34, Tryz.ntmps34
  go_wp2_with fail
  refine (N.out).mono ?_
  rintro E w1 ⟨rfl, hr, hf⟩
  have Y1 := Lib.hid (Y0.out.mv hr hf)
  have pH1 := Y1.out.rd.ptr
  have hbw1 := Y1.out.rd.lt
  clear hr hf
  clear N
  have N := Lib.hid (rsign_calls Y1.out.rd)
  go_wp2_with fail
  refine (N.out).mono ?_
  rintro E w2 ⟨rfl, hb2⟩
  have Y2 := Lib.hid (Y1.out.bel hb2)
  have pH2 := Y2.out.rd.ptr
  have hbw2 := Y2.out.rd.lt
  clear N hb2
  generalize sgAt l (i + 1) = t at *
  have M := Lib.hid (args_bad Y2.out.rd HLL.out hp)
  clear hp
  go_wp2_with fail
  refine (M.out).mono ?_
  rintro E wz ⟨rfl, hf⟩
  have HF := Lib.hid hf
  clear hf
  go_wp2_with fail
  exact ⟨rfl, rfl, Y2.out.fr.trans HF.out⟩
set_option maxRecDepth 100000 in
set_option maxHeartbeats 2000000 in
theorem nam_call_ok {w : World} {l : TL} {v : Value} {b : RB} {i d : Nat} (h : Sd w l v b i d) (hll : l.length ≤ 1000000) (hn : nmTok (tkAt l i) = true) (hs : sgAt l (i + 1) ≠ [61]) (hs2 : sgAt l (i + 1) ≠ [91]) (es : List Ex) (n : Nat) (hp : listR l (i + 1) 0 = .ok es n) :
    Calls Tryz.prog 34 #[rp b] w (PostS w l v b d (endS l (sCall [] (tkAt l i).2 es) n)) := by
  have q : (sgAt l (i + 1) == [61]) = false := beq_eq_false_iff_ne.2 hs
  have q2 : (sgAt l (i + 1) == [91]) = false := beq_eq_false_iff_ne.2 hs2
  clear hs hs2
  have Y0 := Lib.hid (Stt.init h)
  have N := Lib.hid (rname_yes Y0.out.rd hn)
  have pH := h.rd.ptr
  have hx := Lib.hid (h.rd.text i)
  have hbw := h.rd.lt
  have HLL := Lib.hid hll
  clear h hn hll
  generalize (tkAt l i).2 = x at *
  obtain ⟨R, hR⟩ : ∃ R, R = endS l (sCall [] x es) n := ⟨_, rfl⟩
  rw [← hR]
  go_enter Tryz.func34, Tryz.ntmps34
  go_wp2_with fail
  refine (N.out).mono ?_
  rintro E w1 ⟨rfl, hr, hf⟩
  have Y1 := Lib.hid (Y0.out.mv hr hf)
  have pH1 := Y1.out.rd.ptr
  have hbw1 := Y1.out.rd.lt
  clear hr hf
  clear N
  have N := Lib.hid (rsign_calls Y1.out.rd)
  go_wp2_with fail
  refine (N.out).mono ?_
  rintro E w2 ⟨rfl, hb2⟩
  have Y2 := Lib.hid (Y1.out.bel hb2)
  have pH2 := Y2.out.rd.ptr
  have hbw2 := Y2.out.rd.lt
  clear N hb2
  generalize sgAt l (i + 1) = t at *
  have M := Lib.hid (args_ok Y2.out.rd HLL.out hp)
  clear hp
  go_wp2_with fail
  refine M.out.mono ?_
  rintro E w3 ⟨A, c, rfl, hE, hr, hf⟩
  have Y3 := Lib.hid (Y2.out.mv hr hf)
  have pH3 := hr.ptr
  have hbw3 := hr.lt
  have hle := Y2.out.le
  have C := closed_calls hr (n := w.heap.size + 1) (by omega) (sCall [] x es) (.slice A es.length c) (.slice none 0 0) (.slice none 0 0) ⟨(okS_of ⟨by show (0 : Int) ≤ 7; decide, by show (7 : Int) ≤ 10; decide⟩ rfl ⟨by show (0 : Int) ≤ 0; decide, by show (0 : Int) ≤ 3; decide⟩ (by simp) hx.out), er_mono hE hle (Nat.le_refl _), sr_nil _ _, sr_nil _ _⟩
  rw [← hR] at C
  have C := Lib.hid C
  clear hr hf M hR hE
  go_wp2_with fail
  refine C.out.mono ?_
  intro E w4 hP
  cases R with
  | bad j c =>
    obtain ⟨rfl, hf⟩ := hP
    have HF := Lib.hid hf
    clear hf C
    go_wp2_with fail
    exact ⟨rfl, rfl, Y3.out.fr.trans HF.out⟩
  | ok s m =>
    obtain ⟨rfl, hS, hr, hf⟩ := hP
    have SE := Lib.hid (Y3.out.mv hr hf)
    have HS := Lib.hid hS
    have hqE := SE.out.q.lt
    clear hf hr hS C
    obtain ⟨z0, z1, z2, z3, z4, z5, z6, z7, r0, r1, r2, r3, r4, r5, r6, r7, y0, y1, y2, y3, y4, y5, y6, y7⟩ := SE.out.q.facts
    go_wp2_with fail
    exact bodyPost_ret (v := S3.sV s (.slice A es.length c) (.slice none 0 0) (.slice none 0 0)) (by simp [results, Tryz.results34, go_sem, r0, r1, r2, r3, r4, r5, r6, r7]) rfl (SE.out.done HS.out)
set_option maxRecDepth 100000 in
set_option maxHeartbeats 2000000 in
theorem nam_calls {w : World} {l : TL} {v : Value} {b : RB} {i d : Nat} (h : Sd w l v b i d) (hll : l.length ≤ 1000000) :
    Calls Tryz.prog 34 #[rp b] w (PostS w l v b d (namS l i)) := by
  unfold namS
  cases hn : nmTok (tkAt l i) with
  | false => exact nam_no h hn
  | true =>
    rw [if_pos rfl]
    by_cases hs : sgAt l (i + 1) = [61]
    · rw [if_pos hs]; exact nam_asg h hll hn (i + 1) rfl hs
    · rw [if_neg hs]
      by_cases hs2 : sgAt l (i + 1) = [91]
      · rw [if_pos hs2]; exact nam_sto h hll hn (i + 1) rfl hs2
      · rw [if_neg hs2]
        unfold argS
        cases hp : listR l (i + 1) 0 with
        | bad j k => exact nam_call_bad h hll hn hs hs2 j k hp
        | ok es n => exact nam_call_ok h hll hn hs hs2 es n hp
end Go.Proofs.YtipepljmfgjbpaaGreatDoor.E6

namespace Go.Proofs.YtipepljmfgjbpaaGreatDoor.E6
open Go Go.RowKit Go.Proofs.YtipepljmfgjbpaaGreatDoor Go.Proofs.YtipepljmfgjbpaaGreatDoor.E5

/-- What is promised of a statement, and of a block, from i on. -/
def STC (l : TL) (v : Value) (b : RB) (i d : Nat) : Prop := ∀ W, Sd W l v b i d → Calls Tryz.prog 18 #[rp b] W (PostS W l v b d (stR l i d))
def BLC (l : TL) (v : Value) (b : RB) (i d : Nat) : Prop := ∀ W, Sd W l v b i d → Calls Tryz.prog 23 #[rp b] W (PostB W l v b d (blR l i d))
theorem er_frm {w w' : World} {b : RB} {n m : Nat} {l : List Ex} {v : Value} (h : S3.ER w (Rn n m) l v) (hm : m ≤ w.heap.size) (hb : b.r < n) (hf : Fr b w w') : S3.ER w' (Rn n m) l v :=
  h.keep (fun _ hx => hx) fun _ _ hx => hf.cell (Nat.lt_of_lt_of_le hx.2 hm) (Nat.lt_of_lt_of_le hb hx.1)
theorem sr_frm {w w' : World} {b : RB} {n m : Nat} {l : List St} {v : Value} (h : S3.SR w (Rn n m) l v) (hm : m ≤ w.heap.size) (hb : b.r < n) (hf : Fr b w w') : S3.SR w' (Rn n m) l v :=
  h.keep (fun _ hx => hx) fun _ _ hx => hf.cell (Nat.lt_of_lt_of_le hx.2 hm) (Nat.lt_of_lt_of_le hb hx.1)
theorem er_setm {w : World} {n m p o : Nat} {u : Value} {l : List Ex} {v : Value} (h : S3.ER w (Rn n m) l v) (hp : m ≤ p) (hm : m ≤ w.heap.size) : S3.ER (w.setCell ⟨p, o, none⟩ u) (Rn n (w.setCell ⟨p, o, none⟩ u).heap.size) l v :=
  h.keep (fun _ hx => ⟨hx.1, by rw [show (w.setCell ⟨p, o, none⟩ u).heap.size = w.heap.size by simp [World.setCell]]; exact Nat.lt_of_lt_of_le hx.2 hm⟩) fun x _ hx => World.cell?_of_block (w := w) (Below.heap_setCell w ⟨p, o, none⟩ u x (by have := hx.2; show x ≠ p; omega))
theorem sr_setm {w : World} {n m p o : Nat} {u : Value} {l : List St} {v : Value} (h : S3.SR w (Rn n m) l v) (hp : m ≤ p) (hm : m ≤ w.heap.size) : S3.SR (w.setCell ⟨p, o, none⟩ u) (Rn n (w.setCell ⟨p, o, none⟩ u).heap.size) l v :=
  h.keep (fun _ hx => ⟨hx.1, by rw [show (w.setCell ⟨p, o, none⟩ u).heap.size = w.heap.size by simp [World.setCell]]; exact Nat.lt_of_lt_of_le hx.2 hm⟩) fun x _ hx => World.cell?_of_block (w := w) (Below.heap_setCell w ⟨p, o, none⟩ u x (by have := hx.2; show x ≠ p; omega))
theorem sr_set {w : World} {n p : Nat} {l : List St} {v : Value} (h : S3.SR w (Rn n w.heap.size) l v) (hp : p < n) (o : Nat) (u : Value) : S3.SR (w.setCell ⟨p, o, none⟩ u) (Rn n (w.setCell ⟨p, o, none⟩ u).heap.size) l v :=
  h.keep (fun _ hx => ⟨hx.1, by rw [show (w.setCell ⟨p, o, none⟩ u).heap.size = w.heap.size by simp [World.setCell]]; exact hx.2⟩) fun x _ hx => World.cell?_of_block (w := w) (Below.heap_setCell w ⟨p, o, none⟩ u x (by have := hx.1; show x ≠ p; omega))
theorem Rd.dec {w : World} {l : TL} {v : Value} {b : RB} {i d : Nat} (h : Rd w l v b i (d + 1)) : Rd (w.setCell ⟨b.r, 1, none⟩ (.int .i64 (d : Int))) l v b i d := h.set2 d (by have := h.hd; omega)
set_option maxRecDepth 100000 in
set_option maxHeartbeats 2000000 in
theorem inner_calls {w : World} {l : TL} {v : Value} {b : RB} {i d : Nat} (h : Sd w l v b i d) (hd : d ≤ 100) (hB : BLC l v b i (d + 1)) :
    Calls Tryz.prog 59 #[rp b] w (PostB w l v b d (blR l i (d + 1))) := by
  unfold BLC at hB
  have HB := Lib.hid hB
  have H := Lib.hid h
  clear h hB
  generalize blR l i (d + 1) = R at *
  obtain ⟨p0, c0, c1, c2, f1, f2⟩ := H.out.rd.cells
  have hbw := H.out.rd.lt
  go_enter Tryz.func59, Tryz.ntmps59
  go_wp2_with fail
  have F1 := Lib.hid ((Fr.refl b w).setN (.int .i64 ((d : Int) + 1)))
  have H1 := Lib.hid (H.out.mv (H.out.rd.inc2 (by omega)) F1.out)
  clear p0 c0 c1 c2 f1 f2
  generalize w.setCell ⟨b.r, 1, none⟩ (.int .i64 ((d : Int) + 1)) = w1 at *
  refine (HB.out _ H1.out).mono ?_
  intro E w2 hP
  cases R with
  | bad j c =>
    obtain ⟨rfl, hf⟩ := hP
    have HF := Lib.hid (F1.out.trans hf)
    clear hf
    go_wp2_with fail
    exact ⟨rfl, rfl, HF.out⟩
  | ok ss n =>
    obtain ⟨A, c, rfl, hS, hr, hf⟩ := hP
    have HF := Lib.hid (F1.out.trans hf)
    have HS := Lib.hid (sr_mono hS F1.out.size (Nat.le_refl _))
    have HR := Lib.hid hr
    obtain ⟨p0, c0, c1, c2, f1, f2⟩ := hr.cells
    have hbw2 := hr.lt
    clear hf hS hr
    go_wp2_with fail
    go_ret
    exact ⟨A, c, rfl, sr_fr (w := w2) HS.out hbw ((Fr.refl b _).setN _), Rd.dec HR.out, HF.out.setN _⟩
set_option maxRecDepth 100000 in
set_option maxHeartbeats 2000000 in
theorem loop_bad1 {w : World} {l : TL} {v : Value} {b : RB} {i d : Nat} (h : Sd w l v b i d) (j : Nat) (k : Int) (hp : parseR l i 0 = .bad j k) :
    Calls Tryz.prog 49 #[rp b] w (PostS w l v b d (.bad j k)) := by
  have Y0 := Lib.hid (Stt.init h)
  have N := Lib.hid (one_bad Y0.out.rd hp)
  have hbw := h.rd.lt
  clear h hp
  go_enter Tryz.func49, Tryz.ntmps49
  go_wp2_with fail
  refine (N.out).mono ?_
  rintro E wz ⟨rfl, hf⟩
  have HF := Lib.hid hf
  clear hf
  go_wp2_with fail
  exact ⟨rfl, rfl, Y0.out.fr.trans HF.out⟩
set_option maxRecDepth 100000 in
set_option maxHeartbeats 2000000 in
theorem loop_bad2 {w : World} {l : TL} {v : Value} {b : RB} {i d : Nat} (h : Sd w l v b i d) (e : Ex) (n : Nat) (hp : parseR l i 0 = .ok e n) (hd : d ≤ 100) (hB : BLC l v b n (d + 1)) (j : Nat) (k : Int) (hb : blR l n (d + 1) = .bad j k) :
    Calls Tryz.prog 49 #[rp b] w (PostS w l v b d (.bad j k)) := by
  have Y0 := Lib.hid (Stt.init h)
  have N := Lib.hid (one_ok Y0.out.rd hp)
  have hbw := h.rd.lt
  have HBn := Lib.hid hB
  clear h hp hB
  have HK := Lib.hid hb
  clear hb
  go_enter Tryz.func49, Tryz.ntmps49
  go_wp2_with fail
  refine N.out.mono ?_
  rintro E w1 ⟨A, c, rfl, hE, hr, hf⟩
  have Y1 := Lib.hid (Y0.out.mv hr hf)
  have HE := Lib.hid (er_mono hE Y0.out.le (Nat.le_refl _))
  have pH1 := hr.ptr
  have hbw1 := hr.lt
  clear hr hf hE N
  have M := inner_calls Y1.out.sd hd HBn.out
  rw [HK.out] at M
  have M := Lib.hid M
  go_wp2_with fail
  refine (M.out).mono ?_
  rintro E wz ⟨rfl, hf⟩
  have HF := Lib.hid hf
  clear hf
  go_wp2_with fail
  exact ⟨rfl, rfl, Y1.out.fr.trans HF.out⟩
set_option maxRecDepth 100000 in
set_option maxHeartbeats 2000000 in
theorem loop_ok {w : World} {l : TL} {v : Value} {b : RB} {i d : Nat} (h : Sd w l v b i d) (e : Ex) (n : Nat) (hp : parseR l i 0 = .ok e n) (hd : d ≤ 100) (hB : BLC l v b n (d + 1)) (bb : List St) (m : Nat) (hb : blR l n (d + 1) = .ok bb m) :
    Calls Tryz.prog 49 #[rp b] w (PostS w l v b d (.ok (sWhile e bb) m)) := by
  have Y0 := Lib.hid (Stt.init h)
  have N := Lib.hid (one_ok Y0.out.rd hp)
  have hbw := h.rd.lt
  have HBn := Lib.hid hB
  clear h hp hB
  have HK := Lib.hid hb
  clear hb
  go_enter Tryz.func49, Tryz.ntmps49
  go_wp2_with fail
  refine N.out.mono ?_
  rintro E w1 ⟨A, c, rfl, hE, hr, hf⟩
  have Y1 := Lib.hid (Y0.out.mv hr hf)
  have HE := Lib.hid (er_mono hE Y0.out.le (Nat.le_refl _))
  have pH1 := hr.ptr
  have hbw1 := hr.lt
  clear hr hf hE N
  have M := inner_calls Y1.out.sd hd HBn.out
  rw [HK.out] at M
  have M := Lib.hid M
  clear HK
  go_wp2_with fail
  refine M.out.mono ?_
  rintro E w2 ⟨Ab, cb, rfl, hS, hr, hf⟩
  have SE := Lib.hid (Y1.out.mv hr hf)
  have HS := Lib.hid (show SIs w2 (Rn (w.heap.size + 1) w2.heap.size) (sWhile e bb) (.slice A 1 c) (.slice Ab bb.length cb) (.slice none 0 0) from ⟨(okS_of ⟨by show (0 : Int) ≤ 10; decide, by show (10 : Int) ≤ 10; decide⟩ rfl ⟨by show (0 : Int) ≤ 0; decide, by show (0 : Int) ≤ 3; decide⟩ (by simp) (by simp)), er_fr HE.out (by omega) hf, sr_mono hS Y1.out.le (Nat.le_refl _), sr_nil _ _⟩)
  have hqE := SE.out.q.lt
  clear hf hr hS M
  obtain ⟨z0, z1, z2, z3, z4, z5, z6, z7, r0, r1, r2, r3, r4, r5, r6, r7, y0, y1, y2, y3, y4, y5, y6, y7⟩ := SE.out.q.facts
  go_wp2_with fail
  exact bodyPost_ret (v := S3.sV (sWhile e bb) (.slice A 1 c) (.slice Ab bb.length cb) (.slice none 0 0)) (by simp [results, Tryz.results49, go_sem, r0, r1, r2, r3, r4, r5, r6, r7]) rfl (SE.out.done HS.out)
set_option maxRecDepth 100000 in
set_option maxHeartbeats 2000000 in
theorem loop_calls {w : World} {l : TL} {v : Value} {b : RB} {i d : Nat} (h : Sd w l v b i d) (hd : d ≤ 100) (hB : ∀ n, i < n → n ≤ l.length → BLC l v b n (d + 1)) :
    Calls Tryz.prog 49 #[rp b] w (PostS w l v b d (whS l (fun n => blR l n (d + 1)) i)) := by
  unfold whS
  have hw := parseR_within l i 0 h.rd.hi
  cases hp : parseR l i 0 with
  | bad j k => exact loop_bad1 h j k hp
  | ok e n =>
    rw [hp] at hw
    simp only [Res.within] at hw
    simp only
    cases hb : blR l n (d + 1) with
    | bad j k => exact loop_bad2 h e n hp hd (hB n hw.1 hw.2) j k hb
    | ok bb m => exact loop_ok h e n hp hd (hB n hw.1 hw.2) bb m hb
set_option maxRecDepth 100000 in
set_option maxHeartbeats 2000000 in
theorem br_bad1 {w : World} {l : TL} {v : Value} {b : RB} {i d : Nat} (h : Sd w l v b i d) (j : Nat) (k : Int) (hp : parseR l i 0 = .bad j k) :
    Calls Tryz.prog 48 #[rp b] w (PostS w l v b d (.bad j k)) := by
  have Y0 := Lib.hid (Stt.init h)
  have N := Lib.hid (one_bad Y0.out.rd hp)
  have hbw := h.rd.lt
  clear h hp
  go_enter Tryz.func48, Tryz.ntmps48
  go_wp2_with fail
  refine (N.out).mono ?_
  rintro E wz ⟨rfl, hf⟩
  have HF := Lib.hid hf
  clear hf
  go_wp2_with fail
  exact ⟨rfl, rfl, Y0.out.fr.trans HF.out⟩
set_option maxRecDepth 100000 in
set_option maxHeartbeats 2000000 in
theorem br_bad2 {w : World} {l : TL} {v : Value} {b : RB} {i d : Nat} (h : Sd w l v b i d) (e : Ex) (n : Nat) (hp : parseR l i 0 = .ok e n) (hd : d ≤ 100) (hB : BLC l v b n (d + 1)) (j : Nat) (k : Int) (hb : blR l n (d + 1) = .bad j k) :
    Calls Tryz.prog 48 #[rp b] w (PostS w l v b d (.bad j k)) := by
  have Y0 := Lib.hid (Stt.init h)
  have N := Lib.hid (one_ok Y0.out.rd hp)
  have hbw := h.rd.lt
  have HBn := Lib.hid hB
  clear h hp hB
  have HK := Lib.hid hb
  clear hb
  go_enter Tryz.func48, Tryz.ntmps48
  go_wp2_with fail
  refine N.out.mono ?_
  rintro E w1 ⟨A, c, rfl, hE, hr, hf⟩
  have Y1 := Lib.hid (Y0.out.mv hr hf)
  have HE := Lib.hid (er_mono hE Y0.out.le (Nat.le_refl _))
  have pH1 := hr.ptr
  have hbw1 := hr.lt
  clear hr hf hE N
  have M := inner_calls Y1.out.sd hd HBn.out
  rw [HK.out] at M
  have M := Lib.hid M
  go_wp2_with fail
  refine (M.out).mono ?_
  rintro E wz ⟨rfl, hf⟩
  have HF := Lib.hid hf
  clear hf
  go_wp2_with fail
  exact ⟨rfl, rfl, Y1.out.fr.trans HF.out⟩
set_option maxRecDepth 100000 in
set_option maxHeartbeats 2000000 in
theorem br_one {w : World} {l : TL} {v : Value} {b : RB} {i d : Nat} (h : Sd w l v b i d) (e : Ex) (n : Nat) (hp : parseR l i 0 = .ok e n) (hd : d ≤ 100) (hB : BLC l v b n (d + 1)) (bb : List St) (m : Nat) (hb : blR l n (d + 1) = .ok bb m) (hk : kwAt l m ≠ wElse) :
    Calls Tryz.prog 48 #[rp b] w (PostS w l v b d (.ok (sIf e bb []) m)) := by
  have q : (kwAt l m == [101, 108, 115, 101]) = false := beq_eq_false_iff_ne.2 hk
  have Y0 := Lib.hid (Stt.init h)
  have N := Lib.hid (one_ok Y0.out.rd hp)
  have hbw := h.rd.lt
  have HBn := Lib.hid hB
  clear h hp hB
  have HK := Lib.hid hb
  clear hb hk
  go_enter Tryz.func48, Tryz.ntmps48
  go_wp2_with fail
  refine N.out.mono ?_
  rintro E w1 ⟨A, c, rfl, hE, hr, hf⟩
  have Y1 := Lib.hid (Y0.out.mv hr hf)
  have HE := Lib.hid (er_mono hE Y0.out.le (Nat.le_refl _))
  have pH1 := hr.ptr
  have hbw1 := hr.lt
  clear hr hf hE N
  have M := inner_calls Y1.out.sd hd HBn.out
  rw [HK.out] at M
  have M := Lib.hid M
  clear HK HBn
  go_wp2_with fail
  refine M.out.mono ?_
  rintro E w2 ⟨Ab, cb, rfl, hS, hr, hf⟩
  have Y2 := Lib.hid (Y1.out.mv hr hf)
  have HE2 := Lib.hid (er_fr HE.out (by omega) hf)
  have HS2 := Lib.hid (sr_mono hS Y1.out.le (Nat.le_refl _))
  have hz2 := S3.sz1 w2
  have hw2 := Y2.out.le
  have pH2 := hr.ptr
  have hbw2 := hr.lt
  have P := Lib.hid (fun a0 a1 a2 a3 a4 a5 a6 a7 => row8_new w2 a0 a1 a2 a3 a4 a5 a6 a7)
  have N2 := Lib.hid (fun o => rkeyw_calls (Y2.out.al o).rd)
  clear hf hr hS M HE
  go_wp2_with fail
  refine (N2.out _).mono ?_
  rintro E w3 ⟨rfl, hb3⟩
  have Y3 := Lib.hid ((Y2.out.al _).bel hb3)
  have F3 := Lib.hid ((Fr.of (b := b) (S3.bal w2 _)).trans (Fr.of (b := b) hb3))
  have P3 := Lib.hid ((hb3.block w2.heap.size (by rw [hz2]; omega)).trans (P.out _ _ _ _ _ _ _ _))
  have HE3 := Lib.hid (er_bel (er_bel HE2.out (S3.bal w2 _)) hb3)
  have HS3 := Lib.hid (sr_bel (sr_bel HS2.out (S3.bal w2 _)) hb3)
  have hp3 : w2.heap.size < w3.heap.size := row8_R8 P3.out |>.lt
  have pH3 := Y3.out.rd.ptr
  have hbw3 := Y3.out.rd.lt
  clear hb3 N2 P hz2
  obtain ⟨k0, k1, k2, k3, k4, k5, k6, k7⟩ := row8_facts P3.out
  have HS := Lib.hid (show SIs w3 (Rn (w.heap.size + 1) w3.heap.size) (sIf e bb []) (.slice A 1 c) (.slice Ab bb.length cb) (.slice none 0 0) from ⟨(okS_of ⟨by show (0 : Int) ≤ 9; decide, by show (9 : Int) ≤ 10; decide⟩ rfl ⟨by show (0 : Int) ≤ 0; decide, by show (0 : Int) ≤ 3; decide⟩ (by simp) (by simp)), HE3.out, HS3.out, sr_nil _ _⟩)
  generalize kwAt l m = t at *
  have hqE := Y3.out.q.lt
  obtain ⟨z0, z1, z2, z3, z4, z5, z6, z7, r0, r1, r2, r3, r4, r5, r6, r7, y0, y1, y2, y3, y4, y5, y6, y7⟩ := Y3.out.q.facts
  go_wp2_with fail
  exact bodyPost_ret (v := S3.sV (sIf e bb []) (.slice A 1 c) (.slice Ab bb.length cb) (.slice none 0 0)) (by simp [results, Tryz.results48, go_sem, r0, r1, r2, r3, r4, r5, r6, r7]) rfl (Y3.out.done HS.out)
set_option maxRecDepth 100000 in
set_option maxHeartbeats 2000000 in
theorem br_bad3 {w : World} {l : TL} {v : Value} {b : RB} {i d : Nat} (h : Sd w l v b i d) (e : Ex) (n : Nat) (hp : parseR l i 0 = .ok e n) (hd : d ≤ 100) (hB : BLC l v b n (d + 1)) (bb : List St) (m : Nat) (hb : blR l n (d + 1) = .ok bb m) (hk : kwAt l m = wElse) (hB2 : BLC l v b (m + 1) (d + 1)) (j : Nat) (k : Int) (hb2 : blR l (m + 1) (d + 1) = .bad j k) :
    Calls Tryz.prog 48 #[rp b] w (PostS w l v b d (.bad j k)) := by
  have q : (kwAt l m == [101, 108, 115, 101]) = true := by rw [hk]; rfl
  have hi := kwAt_lt hk (by decide)
  have Y0 := Lib.hid (Stt.init h)
  have N := Lib.hid (one_ok Y0.out.rd hp)
  have hbw := h.rd.lt
  have HBn := Lib.hid hB
  clear h hp hB
  have HK := Lib.hid hb
  have HK2 := Lib.hid hb2
  clear hb hk hb2
  go_enter Tryz.func48, Tryz.ntmps48
  go_wp2_with fail
  refine N.out.mono ?_
  rintro E w1 ⟨A, c, rfl, hE, hr, hf⟩
  have Y1 := Lib.hid (Y0.out.mv hr hf)
  have HE := Lib.hid (er_mono hE Y0.out.le (Nat.le_refl _))
  have pH1 := hr.ptr
  have hbw1 := hr.lt
  clear hr hf hE N
  have M := inner_calls Y1.out.sd hd HBn.out
  rw [HK.out] at M
  have M := Lib.hid M
  clear HK HBn
  go_wp2_with fail
  refine M.out.mono ?_
  rintro E w2 ⟨Ab, cb, rfl, hS, hr, hf⟩
  have Y2 := Lib.hid (Y1.out.mv hr hf)
  have HE2 := Lib.hid (er_fr HE.out (by omega) hf)
  have HS2 := Lib.hid (sr_mono hS Y1.out.le (Nat.le_refl _))
  have hz2 := S3.sz1 w2
  have hw2 := Y2.out.le
  have pH2 := hr.ptr
  have hbw2 := hr.lt
  have P := Lib.hid (fun a0 a1 a2 a3 a4 a5 a6 a7 => row8_new w2 a0 a1 a2 a3 a4 a5 a6 a7)
  have N2 := Lib.hid (fun o => rkeyw_calls (Y2.out.al o).rd)
  clear hf hr hS M HE
  go_wp2_with fail
  refine (N2.out _).mono ?_
  rintro E w3 ⟨rfl, hb3⟩
  have Y3 := Lib.hid ((Y2.out.al _).bel hb3)
  have F3 := Lib.hid ((Fr.of (b := b) (S3.bal w2 _)).trans (Fr.of (b := b) hb3))
  have P3 := Lib.hid ((hb3.block w2.heap.size (by rw [hz2]; omega)).trans (P.out _ _ _ _ _ _ _ _))
  have HE3 := Lib.hid (er_bel (er_bel HE2.out (S3.bal w2 _)) hb3)
  have HS3 := Lib.hid (sr_bel (sr_bel HS2.out (S3.bal w2 _)) hb3)
  have hp3 : w2.heap.size < w3.heap.size := row8_R8 P3.out |>.lt
  have pH3 := Y3.out.rd.ptr
  have hbw3 := Y3.out.rd.lt
  clear hb3 N2 P hz2
  generalize kwAt l m = t at *
  have hlen := Y3.out.rd.len
  obtain ⟨p0, c0, c1, c2, f1, f2⟩ := Y3.out.rd.cells
  go_wp2_with fail
  have Y4 := Lib.hid (Y3.out.inc hi)
  have P4 := Lib.hid ((Below.heap_setCell w3 ⟨b.c, 1, none⟩ (.int .i64 ((m : Nat) + 1 : Int)) w2.heap.size (by have := b.lt; show w2.heap.size ≠ b.c; omega)).trans P3.out)
  have pH4 := Y4.out.rd.ptr
  have hbw4 := Y4.out.rd.lt
  clear p0 c0 c1 c2 f1 f2
  generalize w3.setCell ⟨b.c, 1, none⟩ (.int .i64 ((m : Nat) + 1 : Int)) = w4 at *
  have M := inner_calls Y4.out.sd hd hB2
  rw [HK2.out] at M
  have M := Lib.hid M
  refine (M.out).mono ?_
  rintro E wz ⟨rfl, hf⟩
  have HF := Lib.hid hf
  clear hf
  go_wp2_with fail
  exact ⟨rfl, rfl, Y4.out.fr.trans HF.out⟩
set_option maxRecDepth 100000 in
set_option maxHeartbeats 2000000 in
theorem br_two {w : World} {l : TL} {v : Value} {b : RB} {i d : Nat} (h : Sd w l v b i d) (e : Ex) (n : Nat) (hp : parseR l i 0 = .ok e n) (hd : d ≤ 100) (hB : BLC l v b n (d + 1)) (bb : List St) (m : Nat) (hb : blR l n (d + 1) = .ok bb m) (hk : kwAt l m = wElse) (hB2 : BLC l v b (m + 1) (d + 1)) (bb' : List St) (k : Nat) (hb2 : blR l (m + 1) (d + 1) = .ok bb' k) :
    Calls Tryz.prog 48 #[rp b] w (PostS w l v b d ((.ok (sIf e bb bb') k))) := by
  have q : (kwAt l m == [101, 108, 115, 101]) = true := by rw [hk]; rfl
  have hi := kwAt_lt hk (by decide)
  have Y0 := Lib.hid (Stt.init h)
  have N := Lib.hid (one_ok Y0.out.rd hp)
  have hbw := h.rd.lt
  have HBn := Lib.hid hB
  clear h hp hB
  have HK := Lib.hid hb
  have HK2 := Lib.hid hb2
  clear hb hk hb2
  go_enter Tryz.func48, Tryz.ntmps48
  go_wp2_with fail
  refine N.out.mono ?_
  rintro E w1 ⟨A, c, rfl, hE, hr, hf⟩
  have Y1 := Lib.hid (Y0.out.mv hr hf)
  have HE := Lib.hid (er_mono hE Y0.out.le (Nat.le_refl _))
  have pH1 := hr.ptr
  have hbw1 := hr.lt
  clear hr hf hE N
  have M := inner_calls Y1.out.sd hd HBn.out
  rw [HK.out] at M
  have M := Lib.hid M
  clear HK HBn
  go_wp2_with fail
  refine M.out.mono ?_
  rintro E w2 ⟨Ab, cb, rfl, hS, hr, hf⟩
  have Y2 := Lib.hid (Y1.out.mv hr hf)
  have HE2 := Lib.hid (er_fr HE.out (by omega) hf)
  have HS2 := Lib.hid (sr_mono hS Y1.out.le (Nat.le_refl _))
  have hz2 := S3.sz1 w2
  have hw2 := Y2.out.le
  have pH2 := hr.ptr
  have hbw2 := hr.lt
  have P := Lib.hid (fun a0 a1 a2 a3 a4 a5 a6 a7 => row8_new w2 a0 a1 a2 a3 a4 a5 a6 a7)
  have N2 := Lib.hid (fun o => rkeyw_calls (Y2.out.al o).rd)
  clear hf hr hS M HE
  go_wp2_with fail
  refine (N2.out _).mono ?_
  rintro E w3 ⟨rfl, hb3⟩
  have Y3 := Lib.hid ((Y2.out.al _).bel hb3)
  have F3 := Lib.hid ((Fr.of (b := b) (S3.bal w2 _)).trans (Fr.of (b := b) hb3))
  have P3 := Lib.hid ((hb3.block w2.heap.size (by rw [hz2]; omega)).trans (P.out _ _ _ _ _ _ _ _))
  have HE3 := Lib.hid (er_bel (er_bel HE2.out (S3.bal w2 _)) hb3)
  have HS3 := Lib.hid (sr_bel (sr_bel HS2.out (S3.bal w2 _)) hb3)
  have hp3 : w2.heap.size < w3.heap.size := row8_R8 P3.out |>.lt
  have pH3 := Y3.out.rd.ptr
  have hbw3 := Y3.out.rd.lt
  clear hb3 N2 P hz2
  generalize kwAt l m = t at *
  have hlen := Y3.out.rd.len
  obtain ⟨p0, c0, c1, c2, f1, f2⟩ := Y3.out.rd.cells
  go_wp2_with fail
  have Y4 := Lib.hid (Y3.out.inc hi)
  have P4 := Lib.hid ((Below.heap_setCell w3 ⟨b.c, 1, none⟩ (.int .i64 ((m : Nat) + 1 : Int)) w2.heap.size (by have := b.lt; show w2.heap.size ≠ b.c; omega)).trans P3.out)
  have pH4 := Y4.out.rd.ptr
  have hbw4 := Y4.out.rd.lt
  clear p0 c0 c1 c2 f1 f2
  have F4 := Lib.hid (F3.out.setA (.int .i64 ((m : Nat) + 1 : Int)))
  clear HE3 HS3
  generalize w3.setCell ⟨b.c, 1, none⟩ (.int .i64 ((m : Nat) + 1 : Int)) = w4 at *
  have M := inner_calls Y4.out.sd hd hB2
  rw [HK2.out] at M
  have M := Lib.hid M
  have hp4 : w2.heap.size < w4.heap.size := row8_R8 P4.out |>.lt
  refine M.out.mono ?_
  rintro E w5 ⟨Ae, ce, rfl, hS, hr, hf⟩
  have Y5 := Lib.hid (Y4.out.mv hr hf)
  have P5 := Lib.hid ((hf.block w2.heap.size hp4 (by omega)).trans P4.out)
  have hp5 : w2.heap.size < w5.heap.size := row8_R8 P5.out |>.lt
  have F5 := Lib.hid (F4.out.trans hf)
  have HT5 := Lib.hid hS
  have g7 := row8_f7 P5.out
  obtain ⟨k0, k1, k2, k3, k4, k5, k6, k7⟩ := row8_facts P5.out
  clear hf hr hS M
  have Y6 := Lib.hid (Y5.out.put (p := w2.heap.size) hw2 7 (.slice Ae bb'.length ce))
  have HS := Lib.hid (show SIs (w5.setCell ⟨w2.heap.size, 7, none⟩ (.slice Ae bb'.length ce)) (Rn (w.heap.size + 1) (w5.setCell ⟨w2.heap.size, 7, none⟩ (.slice Ae bb'.length ce)).heap.size) (sIf e bb bb') (.slice A 1 c) (.slice Ab bb.length cb) (.slice Ae bb'.length ce) from ⟨(okS_of ⟨by show (0 : Int) ≤ 9; decide, by show (9 : Int) ≤ 10; decide⟩ rfl ⟨by show (0 : Int) ≤ 0; decide, by show (0 : Int) ≤ 3; decide⟩ (by simp) (by simp)), er_setm (er_frm HE2.out (Nat.le_refl _) (by omega) F5.out) (Nat.le_refl _) (Nat.le_of_lt hp5), sr_setm (sr_frm HS2.out (Nat.le_refl _) (by omega) F5.out) (Nat.le_refl _) (Nat.le_of_lt hp5), sr_mono (sr_set HT5.out hp4 7 _) (by have := Y4.out.le; omega) (Nat.le_refl _)⟩)
  have hqE := Y6.out.q.lt
  obtain ⟨z0, z1, z2, z3, z4, z5, z6, z7, r0, r1, r2, r3, r4, r5, r6, r7, y0, y1, y2, y3, y4, y5, y6, y7⟩ := Y6.out.q.facts
  go_wp2_with fail
  exact bodyPost_ret (v := S3.sV (sIf e bb bb') (.slice A 1 c) (.slice Ab bb.length cb) (.slice Ae bb'.length ce)) (by simp [results, Tryz.results48, go_sem, r0, r1, r2, r3, r4, r5, r6, r7]) rfl (Y6.out.done HS.out)
set_option maxRecDepth 100000 in
set_option maxHeartbeats 2000000 in
theorem br_calls {w : World} {l : TL} {v : Value} {b : RB} {i d : Nat} (h : Sd w l v b i d) (hd : d ≤ 100) (hB : ∀ n, i < n → n ≤ l.length → BLC l v b n (d + 1)) :
    Calls Tryz.prog 48 #[rp b] w (PostS w l v b d (ifS l (fun n => blR l n (d + 1)) i)) := by
  unfold ifS
  have hw := parseR_within l i 0 h.rd.hi
  cases hp : parseR l i 0 with
  | bad j k => exact br_bad1 h j k hp
  | ok e n =>
    rw [hp] at hw
    simp only [Res.within] at hw
    have hw2 := blR_within l n (d + 1) hw.2
    simp only
    cases hb : blR l n (d + 1) with
    | bad j k => exact br_bad2 h e n hp hd (hB n hw.1 hw.2) j k hb
    | ok bb m =>
      rw [hb] at hw2
      simp only [RBl.within] at hw2
      simp only
      by_cases hk : kwAt l m = wElse
      · rw [if_pos hk]
        have hlt := kwAt_lt hk (by decide)
        cases hb2 : blR l (m + 1) (d + 1) with
        | bad j k => exact br_bad3 h e n hp hd (hB n hw.1 hw.2) bb m hb hk (hB (m + 1) (by omega) hlt) j k hb2
        | ok bb' k => exact br_two h e n hp hd (hB n hw.1 hw.2) bb m hb hk (hB (m + 1) (by omega) hlt) bb' k hb2
      · rw [if_neg hk]; exact br_one h e n hp hd (hB n hw.1 hw.2) bb m hb hk
end Go.Proofs.YtipepljmfgjbpaaGreatDoor.E6

namespace Go.Proofs.YtipepljmfgjbpaaGreatDoor.E6
open Go Go.RowKit Go.Proofs.YtipepljmfgjbpaaGreatDoor Go.Proofs.YtipepljmfgjbpaaGreatDoor.E5

abbrev opn (s : Bytes) (f : FuncId) : Value := .agg #[.string (B s), .func (.func f) #[] #[]]
def openV (p0 p1 p2 p3 p4 p5 : Bytes) : Value := .agg #[.string (B p0), .func (.func 44) #[] #[], .string (B p1), .func (.func 45) #[] #[], .string (B p2), .func (.func 46) #[] #[], .string (B p3), .func (.func 47) #[] #[], .string (B p4), .func (.func 48) #[] #[], .string (B p5), .func (.func 49) #[] #[]]
set_option maxRecDepth 100000 in
set_option maxHeartbeats 2000000 in
theorem openings_calls (w : World) : Calls Tryz.prog 33 #[] w fun E w' => E = .returned (openV wVar wRead wPrint wReturn wIf wWhile) ∧ Below w.heap.size w w' := by
  go_enter Tryz.func33, Tryz.ntmps33
  go_wp2_with fail
  exact bodyPost_ret (v := openV wVar wRead wPrint wReturn wIf wWhile) (by simp [results, Tryz.results33, go_sem]; rfl) rfl ⟨rfl, S3.bal w _⟩
theorem oidx_0 (p0 p1 p2 p3 p4 p5 : Bytes) (w : World) : (Instr.index 79 (openV p0 p1 p2 p3 p4 p5) (.int .i64 0)).run Tryz.prog w = .ok (opn p0 44) w := by kernel_rfl
theorem oidx_1 (p0 p1 p2 p3 p4 p5 : Bytes) (w : World) : (Instr.index 79 (openV p0 p1 p2 p3 p4 p5) (.int .i64 1)).run Tryz.prog w = .ok (opn p1 45) w := by kernel_rfl
theorem oidx_2 (p0 p1 p2 p3 p4 p5 : Bytes) (w : World) : (Instr.index 79 (openV p0 p1 p2 p3 p4 p5) (.int .i64 2)).run Tryz.prog w = .ok (opn p2 46) w := by kernel_rfl
theorem oidx_3 (p0 p1 p2 p3 p4 p5 : Bytes) (w : World) : (Instr.index 79 (openV p0 p1 p2 p3 p4 p5) (.int .i64 3)).run Tryz.prog w = .ok (opn p3 47) w := by kernel_rfl
theorem oidx_4 (p0 p1 p2 p3 p4 p5 : Bytes) (w : World) : (Instr.index 79 (openV p0 p1 p2 p3 p4 p5) (.int .i64 4)).run Tryz.prog w = .ok (opn p4 48) w := by kernel_rfl
theorem oidx_5 (p0 p1 p2 p3 p4 p5 : Bytes) (w : World) : (Instr.index 79 (openV p0 p1 p2 p3 p4 p5) (.int .i64 5)).run Tryz.prog w = .ok (opn p5 49) w := by kernel_rfl
set_option maxRecDepth 100000 in
set_option maxHeartbeats 2000000 in
theorem stm_0 {w : World} {l : TL} {v : Value} {b : RB} {i d : Nat} (h : Sd w l v b i d) (p0 p1 p2 p3 p4 p5 : Bytes) (hO : ∀ W, Calls Tryz.prog 33 #[] W fun E w' => E = .returned (openV p0 p1 p2 p3 p4 p5) ∧ Below W.heap.size W w') (q0 : (p0 == kwAt l i) = true) (R : RS) (hi : i < l.length) (C : ∀ W, Sd W l v b (i + 1) d → Calls Tryz.prog 44 #[rp b] W (PostS W l v b d R)) :
    Calls Tryz.prog 18 #[rp b] w (PostS w l v b d R) := by
  have Y0 := Lib.hid (Stt.init h)
  have N := Lib.hid (rkeyw_calls Y0.out.rd)
  have pH := h.rd.ptr
  have hbw := h.rd.lt
  have CC := Lib.hid C
  have HO := Lib.hid hO
  clear h C hO
  generalize kwAt l i = t at *
  go_enter Tryz.func18, Tryz.ntmps18
  go_wp2_with fail
  refine (N.out).mono ?_
  rintro E w1 ⟨rfl, hb1⟩
  have Y1 := Lib.hid (Y0.out.bel hb1)
  have pH1 := Y1.out.rd.ptr
  have hbw1 := Y1.out.rd.lt
  clear N hb1
  go_wp2_with fail
  refine (HO.out _).mono ?_
  rintro E w2 ⟨rfl, hb2⟩
  have Y2 := Lib.hid (Y1.out.bel hb2)
  have pH2 := Y2.out.rd.ptr
  have hbw2 := Y2.out.rd.lt
  clear HO hb2
  have hcw2 := RB.ltw hbw2
  have hbr1 : b.r < w2.heap.size + 1 := by omega
  have hcr1 : b.c < w2.heap.size + 1 := by omega
  have hbr2 : b.r < w2.heap.size + 1 + 1 := by omega
  have hcr2 : b.c < w2.heap.size + 1 + 1 := by omega
  have hbr3 : b.r < w2.heap.size + 1 + 1 + 1 := by omega
  have hcr3 : b.c < w2.heap.size + 1 + 1 + 1 := by omega
  have hbr4 : b.r < w2.heap.size + 1 + 1 + 1 + 1 := by omega
  have hcr4 : b.c < w2.heap.size + 1 + 1 + 1 + 1 := by omega
  have hbr5 : b.r < w2.heap.size + 1 + 1 + 1 + 1 + 1 := by omega
  have hcr5 : b.c < w2.heap.size + 1 + 1 + 1 + 1 + 1 := by omega
  have hlen := Y2.out.rd.len
  obtain ⟨e0, c0, c1, c2, f1, f2⟩ := Y2.out.rd.cells
  have i0 := fun W => oidx_0 p0 p1 p2 p3 p4 p5 W
  have i1 := fun W => oidx_1 p0 p1 p2 p3 p4 p5 W
  have i2 := fun W => oidx_2 p0 p1 p2 p3 p4 p5 W
  have i3 := fun W => oidx_3 p0 p1 p2 p3 p4 p5 W
  have i4 := fun W => oidx_4 p0 p1 p2 p3 p4 p5 W
  have i5 := fun W => oidx_5 p0 p1 p2 p3 p4 p5 W
  generalize openV p0 p1 p2 p3 p4 p5 = ov at *
  go_wp2_with fail
  refine wp_loop_rounds 1 ?_
  rw [rounds_succ]
  go_wp2_with fail
  have Y3 := Lib.hid (fun o0 => ((Y2.out.inc hi).al o0))
  clear e0 c0 c1 c2 f1 f2 i0 i1 i2 i3 i4 i5
  have C := Lib.hid (fun o0 => CC.out _ (Y3.out o0).sd)
  refine (C.out _).mono ?_
  intro E w3 hP
  cases R with
  | bad j c =>
    obtain ⟨rfl, hf⟩ := hP
    have HF := Lib.hid hf
    clear hf C
    go_wp2_with fail
    exact ⟨rfl, rfl, Fr.trans (Stt.fr (Y3.out _)) HF.out⟩
  | ok s m =>
    obtain ⟨va, vb, ve, rfl, hS, hr, hf⟩ := hP
    obtain ⟨Aa, ca, rfl⟩ := hS.a.slice
    obtain ⟨Ab, cb, rfl⟩ := hS.b.slice
    obtain ⟨Ae, ce, rfl⟩ := hS.e.slice
    have SE := Lib.hid ((Y3.out _).mv hr hf)
    have HS := Lib.hid (hS.mono (n' := w.heap.size + 1) (Stt.le (Y3.out _)) (Nat.le_refl _))
    have hqE := SE.out.q.lt
    clear hf hr hS C
    obtain ⟨z0, z1, z2, z3, z4, z5, z6, z7, r0, r1, r2, r3, r4, r5, r6, r7, y0, y1, y2, y3, y4, y5, y6, y7⟩ := SE.out.q.facts
    go_wp2_with fail
    exact bodyPost_ret (v := S3.sV s (.slice Aa s.args.length ca) (.slice Ab s.body.length cb) (.slice Ae s.els.length ce)) (by simp [results, Tryz.results18, go_sem, r0, r1, r2, r3, r4, r5, r6, r7]) rfl (SE.out.done HS.out)
set_option maxRecDepth 100000 in
set_option maxHeartbeats 2000000 in
theorem stm_1 {w : World} {l : TL} {v : Value} {b : RB} {i d : Nat} (h : Sd w l v b i d) (p0 p1 p2 p3 p4 p5 : Bytes) (hO : ∀ W, Calls Tryz.prog 33 #[] W fun E w' => E = .returned (openV p0 p1 p2 p3 p4 p5) ∧ Below W.heap.size W w') (q0 : (p0 == kwAt l i) = false) (q1 : (p1 == kwAt l i) = true) (R : RS) (hi : i < l.length) (C : ∀ W, Sd W l v b (i + 1) d → Calls Tryz.prog 45 #[rp b] W (PostS W l v b d R)) :
    Calls Tryz.prog 18 #[rp b] w (PostS w l v b d R) := by
  have Y0 := Lib.hid (Stt.init h)
  have N := Lib.hid (rkeyw_calls Y0.out.rd)
  have pH := h.rd.ptr
  have hbw := h.rd.lt
  have CC := Lib.hid C
  have HO := Lib.hid hO
  clear h C hO
  generalize kwAt l i = t at *
  go_enter Tryz.func18, Tryz.ntmps18
  go_wp2_with fail
  refine (N.out).mono ?_
  rintro E w1 ⟨rfl, hb1⟩
  have Y1 := Lib.hid (Y0.out.bel hb1)
  have pH1 := Y1.out.rd.ptr
  have hbw1 := Y1.out.rd.lt
  clear N hb1
  go_wp2_with fail
  refine (HO.out _).mono ?_
  rintro E w2 ⟨rfl, hb2⟩
  have Y2 := Lib.hid (Y1.out.bel hb2)
  have pH2 := Y2.out.rd.ptr
  have hbw2 := Y2.out.rd.lt
  clear HO hb2
  have hcw2 := RB.ltw hbw2
  have hbr1 : b.r < w2.heap.size + 1 := by omega
  have hcr1 : b.c < w2.heap.size + 1 := by omega
  have hbr2 : b.r < w2.heap.size + 1 + 1 := by omega
  have hcr2 : b.c < w2.heap.size + 1 + 1 := by omega
  have hbr3 : b.r < w2.heap.size + 1 + 1 + 1 := by omega
  have hcr3 : b.c < w2.heap.size + 1 + 1 + 1 := by omega
  have hbr4 : b.r < w2.heap.size + 1 + 1 + 1 + 1 := by omega
  have hcr4 : b.c < w2.heap.size + 1 + 1 + 1 + 1 := by omega
  have hbr5 : b.r < w2.heap.size + 1 + 1 + 1 + 1 + 1 := by omega
  have hcr5 : b.c < w2.heap.size + 1 + 1 + 1 + 1 + 1 := by omega
  have hlen := Y2.out.rd.len
  obtain ⟨e0, c0, c1, c2, f1, f2⟩ := Y2.out.rd.cells
  have i0 := fun W => oidx_0 p0 p1 p2 p3 p4 p5 W
  have i1 := fun W => oidx_1 p0 p1 p2 p3 p4 p5 W
  have i2 := fun W => oidx_2 p0 p1 p2 p3 p4 p5 W
  have i3 := fun W => oidx_3 p0 p1 p2 p3 p4 p5 W
  have i4 := fun W => oidx_4 p0 p1 p2 p3 p4 p5 W
  have i5 := fun W => oidx_5 p0 p1 p2 p3 p4 p5 W
  generalize openV p0 p1 p2 p3 p4 p5 = ov at *
  go_wp2_with fail
  refine wp_loop_rounds 2 ?_
  rw [rounds_succ]
  go_wp2_with fail
  rw [rounds_succ]
  go_wp2_with fail
  have Y3 := Lib.hid (fun o0 o1 => (((Y2.out.inc hi).al o0).al o1))
  clear e0 c0 c1 c2 f1 f2 i0 i1 i2 i3 i4 i5
  have C := Lib.hid (fun o0 o1 => CC.out _ (Y3.out o0 o1).sd)
  refine (C.out _ _).mono ?_
  intro E w3 hP
  cases R with
  | bad j c =>
    obtain ⟨rfl, hf⟩ := hP
    have HF := Lib.hid hf
    clear hf C
    go_wp2_with fail
    exact ⟨rfl, rfl, Fr.trans (Stt.fr (Y3.out _ _)) HF.out⟩
  | ok s m =>
    obtain ⟨va, vb, ve, rfl, hS, hr, hf⟩ := hP
    obtain ⟨Aa, ca, rfl⟩ := hS.a.slice
    obtain ⟨Ab, cb, rfl⟩ := hS.b.slice
    obtain ⟨Ae, ce, rfl⟩ := hS.e.slice
    have SE := Lib.hid ((Y3.out _ _).mv hr hf)
    have HS := Lib.hid (hS.mono (n' := w.heap.size + 1) (Stt.le (Y3.out _ _)) (Nat.le_refl _))
    have hqE := SE.out.q.lt
    clear hf hr hS C
    obtain ⟨z0, z1, z2, z3, z4, z5, z6, z7, r0, r1, r2, r3, r4, r5, r6, r7, y0, y1, y2, y3, y4, y5, y6, y7⟩ := SE.out.q.facts
    go_wp2_with fail
    exact bodyPost_ret (v := S3.sV s (.slice Aa s.args.length ca) (.slice Ab s.body.length cb) (.slice Ae s.els.length ce)) (by simp [results, Tryz.results18, go_sem, r0, r1, r2, r3, r4, r5, r6, r7]) rfl (SE.out.done HS.out)
set_option maxRecDepth 100000 in
set_option maxHeartbeats 2000000 in
theorem stm_2 {w : World} {l : TL} {v : Value} {b : RB} {i d : Nat} (h : Sd w l v b i d) (p0 p1 p2 p3 p4 p5 : Bytes) (hO : ∀ W, Calls Tryz.prog 33 #[] W fun E w' => E = .returned (openV p0 p1 p2 p3 p4 p5) ∧ Below W.heap.size W w') (q0 : (p0 == kwAt l i) = false) (q1 : (p1 == kwAt l i) = false) (q2 : (p2 == kwAt l i) = true) (R : RS) (hi : i < l.length) (C : ∀ W, Sd W l v b (i + 1) d → Calls Tryz.prog 46 #[rp b] W (PostS W l v b d R)) :
    Calls Tryz.prog 18 #[rp b] w (PostS w l v b d R) := by
  have Y0 := Lib.hid (Stt.init h)
  have N := Lib.hid (rkeyw_calls Y0.out.rd)
  have pH := h.rd.ptr
  have hbw := h.rd.lt
  have CC := Lib.hid C
  have HO := Lib.hid hO
  clear h C hO
  generalize kwAt l i = t at *
  go_enter Tryz.func18, Tryz.ntmps18
  go_wp2_with fail
  refine (N.out).mono ?_
  rintro E w1 ⟨rfl, hb1⟩
  have Y1 := Lib.hid (Y0.out.bel hb1)
  have pH1 := Y1.out.rd.ptr
  have hbw1 := Y1.out.rd.lt
  clear N hb1
  go_wp2_with fail
  refine (HO.out _).mono ?_
  rintro E w2 ⟨rfl, hb2⟩
  have Y2 := Lib.hid (Y1.out.bel hb2)
  have pH2 := Y2.out.rd.ptr
  have hbw2 := Y2.out.rd.lt
  clear HO hb2
  have hcw2 := RB.ltw hbw2
  have hbr1 : b.r < w2.heap.size + 1 := by omega
  have hcr1 : b.c < w2.heap.size + 1 := by omega
  have hbr2 : b.r < w2.heap.size + 1 + 1 := by omega
  have hcr2 : b.c < w2.heap.size + 1 + 1 := by omega
  have hbr3 : b.r < w2.heap.size + 1 + 1 + 1 := by omega
  have hcr3 : b.c < w2.heap.size + 1 + 1 + 1 := by omega
  have hbr4 : b.r < w2.heap.size + 1 + 1 + 1 + 1 := by omega
  have hcr4 : b.c < w2.heap.size + 1 + 1 + 1 + 1 := by omega
  have hbr5 : b.r < w2.heap.size + 1 + 1 + 1 + 1 + 1 := by omega
  have hcr5 : b.c < w2.heap.size + 1 + 1 + 1 + 1 + 1 := by omega
  have hlen := Y2.out.rd.len
  obtain ⟨e0, c0, c1, c2, f1, f2⟩ := Y2.out.rd.cells
  have i0 := fun W => oidx_0 p0 p1 p2 p3 p4 p5 W
  have i1 := fun W => oidx_1 p0 p1 p2 p3 p4 p5 W
  have i2 := fun W => oidx_2 p0 p1 p2 p3 p4 p5 W
  have i3 := fun W => oidx_3 p0 p1 p2 p3 p4 p5 W
  have i4 := fun W => oidx_4 p0 p1 p2 p3 p4 p5 W
  have i5 := fun W => oidx_5 p0 p1 p2 p3 p4 p5 W
  generalize openV p0 p1 p2 p3 p4 p5 = ov at *
  go_wp2_with fail
  refine wp_loop_rounds 3 ?_
  rw [rounds_succ]
  go_wp2_with fail
  rw [rounds_succ]
  go_wp2_with fail
  rw [rounds_succ]
  go_wp2_with fail
  have Y3 := Lib.hid (fun o0 o1 o2 => ((((Y2.out.inc hi).al o0).al o1).al o2))
  clear e0 c0 c1 c2 f1 f2 i0 i1 i2 i3 i4 i5
  have C := Lib.hid (fun o0 o1 o2 => CC.out _ (Y3.out o0 o1 o2).sd)
  refine (C.out _ _ _).mono ?_
  intro E w3 hP
  cases R with
  | bad j c =>
    obtain ⟨rfl, hf⟩ := hP
    have HF := Lib.hid hf
    clear hf C
    go_wp2_with fail
    exact ⟨rfl, rfl, Fr.trans (Stt.fr (Y3.out _ _ _)) HF.out⟩
  | ok s m =>
    obtain ⟨va, vb, ve, rfl, hS, hr, hf⟩ := hP
    obtain ⟨Aa, ca, rfl⟩ := hS.a.slice
    obtain ⟨Ab, cb, rfl⟩ := hS.b.slice
    obtain ⟨Ae, ce, rfl⟩ := hS.e.slice
    have SE := Lib.hid ((Y3.out _ _ _).mv hr hf)
    have HS := Lib.hid (hS.mono (n' := w.heap.size + 1) (Stt.le (Y3.out _ _ _)) (Nat.le_refl _))
    have hqE := SE.out.q.lt
    clear hf hr hS C
    obtain ⟨z0, z1, z2, z3, z4, z5, z6, z7, r0, r1, r2, r3, r4, r5, r6, r7, y0, y1, y2, y3, y4, y5, y6, y7⟩ := SE.out.q.facts
    go_wp2_with fail
    exact bodyPost_ret (v := S3.sV s (.slice Aa s.args.length ca) (.slice Ab s.body.length cb) (.slice Ae s.els.length ce)) (by simp [results, Tryz.results18, go_sem, r0, r1, r2, r3, r4, r5, r6, r7]) rfl (SE.out.done HS.out)
set_option maxRecDepth 100000 in
set_option maxHeartbeats 2000000 in
theorem stm_3 {w : World} {l : TL} {v : Value} {b : RB} {i d : Nat} (h : Sd w l v b i d) (p0 p1 p2 p3 p4 p5 : Bytes) (hO : ∀ W, Calls Tryz.prog 33 #[] W fun E w' => E = .returned (openV p0 p1 p2 p3 p4 p5) ∧ Below W.heap.size W w') (q0 : (p0 == kwAt l i) = false) (q1 : (p1 == kwAt l i) = false) (q2 : (p2 == kwAt l i) = false) (q3 : (p3 == kwAt l i) = true) (R : RS) (hi : i < l.length) (C : ∀ W, Sd W l v b (i + 1) d → Calls Tryz.prog 47 #[rp b] W (PostS W l v b d R)) :
    Calls Tryz.prog 18 #[rp b] w (PostS w l v b d R) := by
  have Y0 := Lib.hid (Stt.init h)
  have N := Lib.hid (rkeyw_calls Y0.out.rd)
  have pH := h.rd.ptr
  have hbw := h.rd.lt
  have CC := Lib.hid C
  have HO := Lib.hid hO
  clear h C hO
  generalize kwAt l i = t at *
  go_enter Tryz.func18, Tryz.ntmps18
  go_wp2_with fail
  refine (N.out).mono ?_
  rintro E w1 ⟨rfl, hb1⟩
  have Y1 := Lib.hid (Y0.out.bel hb1)
  have pH1 := Y1.out.rd.ptr
  have hbw1 := Y1.out.rd.lt
  clear N hb1
  go_wp2_with fail
  refine (HO.out _).mono ?_
  rintro E w2 ⟨rfl, hb2⟩
  have Y2 := Lib.hid (Y1.out.bel hb2)
  have pH2 := Y2.out.rd.ptr
  have hbw2 := Y2.out.rd.lt
  clear HO hb2
  have hcw2 := RB.ltw hbw2
  have hbr1 : b.r < w2.heap.size + 1 := by omega
  have hcr1 : b.c < w2.heap.size + 1 := by omega
  have hbr2 : b.r < w2.heap.size + 1 + 1 := by omega
  have hcr2 : b.c < w2.heap.size + 1 + 1 := by omega
  have hbr3 : b.r < w2.heap.size + 1 + 1 + 1 := by omega
  have hcr3 : b.c < w2.heap.size + 1 + 1 + 1 := by omega
  have hbr4 : b.r < w2.heap.size + 1 + 1 + 1 + 1 := by omega
  have hcr4 : b.c < w2.heap.size + 1 + 1 + 1 + 1 := by omega
  have hbr5 : b.r < w2.heap.size + 1 + 1 + 1 + 1 + 1 := by omega
  have hcr5 : b.c < w2.heap.size + 1 + 1 + 1 + 1 + 1 := by omega
  have hlen := Y2.out.rd.len
  obtain ⟨e0, c0, c1, c2, f1, f2⟩ := Y2.out.rd.cells
  have i0 := fun W => oidx_0 p0 p1 p2 p3 p4 p5 W
  have i1 := fun W => oidx_1 p0 p1 p2 p3 p4 p5 W
  have i2 := fun W => oidx_2 p0 p1 p2 p3 p4 p5 W
  have i3 := fun W => oidx_3 p0 p1 p2 p3 p4 p5 W
  have i4 := fun W => oidx_4 p0 p1 p2 p3 p4 p5 W
  have i5 := fun W => oidx_5 p0 p1 p2 p3 p4 p5 W
  generalize openV p0 p1 p2 p3 p4 p5 = ov at *
  go_wp2_with fail
  refine wp_loop_rounds 4 ?_
  rw [rounds_succ]
  go_wp2_with fail
  rw [rounds_succ]
  go_wp2_with fail
  rw [rounds_succ]
  go_wp2_with fail
  rw [rounds_succ]
  go_wp2_with fail
  have Y3 := Lib.hid (fun o0 o1 o2 o3 => (((((Y2.out.inc hi).al o0).al o1).al o2).al o3))
  clear e0 c0 c1 c2 f1 f2 i0 i1 i2 i3 i4 i5
  have C := Lib.hid (fun o0 o1 o2 o3 => CC.out _ (Y3.out o0 o1 o2 o3).sd)
  refine (C.out _ _ _ _).mono ?_
  intro E w3 hP
  cases R with
  | bad j c =>
    obtain ⟨rfl, hf⟩ := hP
    have HF := Lib.hid hf
    clear hf C
    go_wp2_with fail
    exact ⟨rfl, rfl, Fr.trans (Stt.fr (Y3.out _ _ _ _)) HF.out⟩
  | ok s m =>
    obtain ⟨va, vb, ve, rfl, hS, hr, hf⟩ := hP
    obtain ⟨Aa, ca, rfl⟩ := hS.a.slice
    obtain ⟨Ab, cb, rfl⟩ := hS.b.slice
    obtain ⟨Ae, ce, rfl⟩ := hS.e.slice
    have SE := Lib.hid ((Y3.out _ _ _ _).mv hr hf)
    have HS := Lib.hid (hS.mono (n' := w.heap.size + 1) (Stt.le (Y3.out _ _ _ _)) (Nat.le_refl _))
    have hqE := SE.out.q.lt
    clear hf hr hS C
    obtain ⟨z0, z1, z2, z3, z4, z5, z6, z7, r0, r1, r2, r3, r4, r5, r6, r7, y0, y1, y2, y3, y4, y5, y6, y7⟩ := SE.out.q.facts
    go_wp2_with fail
    exact bodyPost_ret (v := S3.sV s (.slice Aa s.args.length ca) (.slice Ab s.body.length cb) (.slice Ae s.els.length ce)) (by simp [results, Tryz.results18, go_sem, r0, r1, r2, r3, r4, r5, r6, r7]) rfl (SE.out.done HS.out)
set_option maxRecDepth 100000 in
set_option maxHeartbeats 2000000 in
theorem stm_4 {w : World} {l : TL} {v : Value} {b : RB} {i d : Nat} (h : Sd w l v b i d) (p0 p1 p2 p3 p4 p5 : Bytes) (hO : ∀ W, Calls Tryz.prog 33 #[] W fun E w' => E = .returned (openV p0 p1 p2 p3 p4 p5) ∧ Below W.heap.size W w') (q0 : (p0 == kwAt l i) = false) (q1 : (p1 == kwAt l i) = false) (q2 : (p2 == kwAt l i) = false) (q3 : (p3 == kwAt l i) = false) (q4 : (p4 == kwAt l i) = true) (R : RS) (hi : i < l.length) (C : ∀ W, Sd W l v b (i + 1) d → Calls Tryz.prog 48 #[rp b] W (PostS W l v b d R)) :
    Calls Tryz.prog 18 #[rp b] w (PostS w l v b d R) := by
  have Y0 := Lib.hid (Stt.init h)
  have N := Lib.hid (rkeyw_calls Y0.out.rd)
  have pH := h.rd.ptr
  have hbw := h.rd.lt
  have CC := Lib.hid C
  have HO := Lib.hid hO
  clear h C hO
  generalize kwAt l i = t at *
  go_enter Tryz.func18, Tryz.ntmps18
  go_wp2_with fail
  refine (N.out).mono ?_
  rintro E w1 ⟨rfl, hb1⟩
  have Y1 := Lib.hid (Y0.out.bel hb1)
  have pH1 := Y1.out.rd.ptr
  have hbw1 := Y1.out.rd.lt
  clear N hb1
  go_wp2_with fail
  refine (HO.out _).mono ?_
  rintro E w2 ⟨rfl, hb2⟩
  have Y2 := Lib.hid (Y1.out.bel hb2)
  have pH2 := Y2.out.rd.ptr
  have hbw2 := Y2.out.rd.lt
  clear HO hb2
  have hcw2 := RB.ltw hbw2
  have hbr1 : b.r < w2.heap.size + 1 := by omega
  have hcr1 : b.c < w2.heap.size + 1 := by omega
  have hbr2 : b.r < w2.heap.size + 1 + 1 := by omega
  have hcr2 : b.c < w2.heap.size + 1 + 1 := by omega
  have hbr3 : b.r < w2.heap.size + 1 + 1 + 1 := by omega
  have hcr3 : b.c < w2.heap.size + 1 + 1 + 1 := by omega
  have hbr4 : b.r < w2.heap.size + 1 + 1 + 1 + 1 := by omega
  have hcr4 : b.c < w2.heap.size + 1 + 1 + 1 + 1 := by omega
  have hbr5 : b.r < w2.heap.size + 1 + 1 + 1 + 1 + 1 := by omega
  have hcr5 : b.c < w2.heap.size + 1 + 1 + 1 + 1 + 1 := by omega
  have hlen := Y2.out.rd.len
  obtain ⟨e0, c0, c1, c2, f1, f2⟩ := Y2.out.rd.cells
  have i0 := fun W => oidx_0 p0 p1 p2 p3 p4 p5 W
  have i1 := fun W => oidx_1 p0 p1 p2 p3 p4 p5 W
  have i2 := fun W => oidx_2 p0 p1 p2 p3 p4 p5 W
  have i3 := fun W => oidx_3 p0 p1 p2 p3 p4 p5 W
  have i4 := fun W => oidx_4 p0 p1 p2 p3 p4 p5 W
  have i5 := fun W => oidx_5 p0 p1 p2 p3 p4 p5 W
  generalize openV p0 p1 p2 p3 p4 p5 = ov at *
  go_wp2_with fail
  refine wp_loop_rounds 5 ?_
  rw [rounds_succ]
  go_wp2_with fail
  rw [rounds_succ]
  go_wp2_with fail
  rw [rounds_succ]
  go_wp2_with fail
  rw [rounds_succ]
  go_wp2_with fail
  rw [rounds_succ]
  go_wp2_with fail
  have Y3 := Lib.hid (fun o0 o1 o2 o3 o4 => ((((((Y2.out.inc hi).al o0).al o1).al o2).al o3).al o4))
  clear e0 c0 c1 c2 f1 f2 i0 i1 i2 i3 i4 i5
  have C := Lib.hid (fun o0 o1 o2 o3 o4 => CC.out _ (Y3.out o0 o1 o2 o3 o4).sd)
  refine (C.out _ _ _ _ _).mono ?_
  intro E w3 hP
  cases R with
  | bad j c =>
    obtain ⟨rfl, hf⟩ := hP
    have HF := Lib.hid hf
    clear hf C
    go_wp2_with fail
    exact ⟨rfl, rfl, Fr.trans (Stt.fr (Y3.out _ _ _ _ _)) HF.out⟩
  | ok s m =>
    obtain ⟨va, vb, ve, rfl, hS, hr, hf⟩ := hP
    obtain ⟨Aa, ca, rfl⟩ := hS.a.slice
    obtain ⟨Ab, cb, rfl⟩ := hS.b.slice
    obtain ⟨Ae, ce, rfl⟩ := hS.e.slice
    have SE := Lib.hid ((Y3.out _ _ _ _ _).mv hr hf)
    have HS := Lib.hid (hS.mono (n' := w.heap.size + 1) (Stt.le (Y3.out _ _ _ _ _)) (Nat.le_refl _))
    have hqE := SE.out.q.lt
    clear hf hr hS C
    obtain ⟨z0, z1, z2, z3, z4, z5, z6, z7, r0, r1, r2, r3, r4, r5, r6, r7, y0, y1, y2, y3, y4, y5, y6, y7⟩ := SE.out.q.facts
    go_wp2_with fail
    exact bodyPost_ret (v := S3.sV s (.slice Aa s.args.length ca) (.slice Ab s.body.length cb) (.slice Ae s.els.length ce)) (by simp [results, Tryz.results18, go_sem, r0, r1, r2, r3, r4, r5, r6, r7]) rfl (SE.out.done HS.out)
set_option maxRecDepth 100000 in
set_option maxHeartbeats 2000000 in
theorem stm_5 {w : World} {l : TL} {v : Value} {b : RB} {i d : Nat} (h : Sd w l v b i d) (p0 p1 p2 p3 p4 p5 : Bytes) (hO : ∀ W, Calls Tryz.prog 33 #[] W fun E w' => E = .returned (openV p0 p1 p2 p3 p4 p5) ∧ Below W.heap.size W w') (q0 : (p0 == kwAt l i) = false) (q1 : (p1 == kwAt l i) = false) (q2 : (p2 == kwAt l i) = false) (q3 : (p3 == kwAt l i) = false) (q4 : (p4 == kwAt l i) = false) (q5 : (p5 == kwAt l i) = true) (R : RS) (hi : i < l.length) (C : ∀ W, Sd W l v b (i + 1) d → Calls Tryz.prog 49 #[rp b] W (PostS W l v b d R)) :
    Calls Tryz.prog 18 #[rp b] w (PostS w l v b d R) := by
  have Y0 := Lib.hid (Stt.init h)
  have N := Lib.hid (rkeyw_calls Y0.out.rd)
  have pH := h.rd.ptr
  have hbw := h.rd.lt
  have CC := Lib.hid C
  have HO := Lib.hid hO
  clear h C hO
  generalize kwAt l i = t at *
  go_enter Tryz.func18, Tryz.ntmps18
  go_wp2_with fail
  refine (N.out).mono ?_
  rintro E w1 ⟨rfl, hb1⟩
  have Y1 := Lib.hid (Y0.out.bel hb1)
  have pH1 := Y1.out.rd.ptr
  have hbw1 := Y1.out.rd.lt
  clear N hb1
  go_wp2_with fail
  refine (HO.out _).mono ?_
  rintro E w2 ⟨rfl, hb2⟩
  have Y2 := Lib.hid (Y1.out.bel hb2)
  have pH2 := Y2.out.rd.ptr
  have hbw2 := Y2.out.rd.lt
  clear HO hb2
  have hcw2 := RB.ltw hbw2
  have hbr1 : b.r < w2.heap.size + 1 := by omega
  have hcr1 : b.c < w2.heap.size + 1 := by omega
  have hbr2 : b.r < w2.heap.size + 1 + 1 := by omega
  have hcr2 : b.c < w2.heap.size + 1 + 1 := by omega
  have hbr3 : b.r < w2.heap.size + 1 + 1 + 1 := by omega
  have hcr3 : b.c < w2.heap.size + 1 + 1 + 1 := by omega
  have hbr4 : b.r < w2.heap.size + 1 + 1 + 1 + 1 := by omega
  have hcr4 : b.c < w2.heap.size + 1 + 1 + 1 + 1 := by omega
  have hbr5 : b.r < w2.heap.size + 1 + 1 + 1 + 1 + 1 := by omega
  have hcr5 : b.c < w2.heap.size + 1 + 1 + 1 + 1 + 1 := by omega
  have hlen := Y2.out.rd.len
  obtain ⟨e0, c0, c1, c2, f1, f2⟩ := Y2.out.rd.cells
  have i0 := fun W => oidx_0 p0 p1 p2 p3 p4 p5 W
  have i1 := fun W => oidx_1 p0 p1 p2 p3 p4 p5 W
  have i2 := fun W => oidx_2 p0 p1 p2 p3 p4 p5 W
  have i3 := fun W => oidx_3 p0 p1 p2 p3 p4 p5 W
  have i4 := fun W => oidx_4 p0 p1 p2 p3 p4 p5 W
  have i5 := fun W => oidx_5 p0 p1 p2 p3 p4 p5 W
  generalize openV p0 p1 p2 p3 p4 p5 = ov at *
  go_wp2_with fail
  refine wp_loop_rounds 6 ?_
  rw [rounds_succ]
  go_wp2_with fail
  rw [rounds_succ]
  go_wp2_with fail
  rw [rounds_succ]
  go_wp2_with fail
  rw [rounds_succ]
  go_wp2_with fail
  rw [rounds_succ]
  go_wp2_with fail
  rw [rounds_succ]
  go_wp2_with fail
  have Y3 := Lib.hid (fun o0 o1 o2 o3 o4 o5 => (((((((Y2.out.inc hi).al o0).al o1).al o2).al o3).al o4).al o5))
  clear e0 c0 c1 c2 f1 f2 i0 i1 i2 i3 i4 i5
  have C := Lib.hid (fun o0 o1 o2 o3 o4 o5 => CC.out _ (Y3.out o0 o1 o2 o3 o4 o5).sd)
  refine (C.out _ _ _ _ _ _).mono ?_
  intro E w3 hP
  cases R with
  | bad j c =>
    obtain ⟨rfl, hf⟩ := hP
    have HF := Lib.hid hf
    clear hf C
    go_wp2_with fail
    exact ⟨rfl, rfl, Fr.trans (Stt.fr (Y3.out _ _ _ _ _ _)) HF.out⟩
  | ok s m =>
    obtain ⟨va, vb, ve, rfl, hS, hr, hf⟩ := hP
    obtain ⟨Aa, ca, rfl⟩ := hS.a.slice
    obtain ⟨Ab, cb, rfl⟩ := hS.b.slice
    obtain ⟨Ae, ce, rfl⟩ := hS.e.slice
    have SE := Lib.hid ((Y3.out _ _ _ _ _ _).mv hr hf)
    have HS := Lib.hid (hS.mono (n' := w.heap.size + 1) (Stt.le (Y3.out _ _ _ _ _ _)) (Nat.le_refl _))
    have hqE := SE.out.q.lt
    clear hf hr hS C
    obtain ⟨z0, z1, z2, z3, z4, z5, z6, z7, r0, r1, r2, r3, r4, r5, r6, r7, y0, y1, y2, y3, y4, y5, y6, y7⟩ := SE.out.q.facts
    go_wp2_with fail
    exact bodyPost_ret (v := S3.sV s (.slice Aa s.args.length ca) (.slice Ab s.body.length cb) (.slice Ae s.els.length ce)) (by simp [results, Tryz.results18, go_sem, r0, r1, r2, r3, r4, r5, r6, r7]) rfl (SE.out.done HS.out)
set_option maxRecDepth 100000 in
set_option maxHeartbeats 2000000 in
theorem stm_6 {w : World} {l : TL} {v : Value} {b : RB} {i d : Nat} (h : Sd w l v b i d) (p0 p1 p2 p3 p4 p5 : Bytes) (hO : ∀ W, Calls Tryz.prog 33 #[] W fun E w' => E = .returned (openV p0 p1 p2 p3 p4 p5) ∧ Below W.heap.size W w') (q0 : (p0 == kwAt l i) = false) (q1 : (p1 == kwAt l i) = false) (q2 : (p2 == kwAt l i) = false) (q3 : (p3 == kwAt l i) = false) (q4 : (p4 == kwAt l i) = false) (q5 : (p5 == kwAt l i) = false) (R : RS) (C : ∀ W, Sd W l v b i d → Calls Tryz.prog 34 #[rp b] W (PostS W l v b d R)) :
    Calls Tryz.prog 18 #[rp b] w (PostS w l v b d R) := by
  have Y0 := Lib.hid (Stt.init h)
  have N := Lib.hid (rkeyw_calls Y0.out.rd)
  have pH := h.rd.ptr
  have hbw := h.rd.lt
  have CC := Lib.hid C
  have HO := Lib.hid hO
  clear h C hO
  generalize kwAt l i = t at *
  go_enter Tryz.func18, Tryz.ntmps18
  go_wp2_with fail
  refine (N.out).mono ?_
  rintro E w1 ⟨rfl, hb1⟩
  have Y1 := Lib.hid (Y0.out.bel hb1)
  have pH1 := Y1.out.rd.ptr
  have hbw1 := Y1.out.rd.lt
  clear N hb1
  go_wp2_with fail
  refine (HO.out _).mono ?_
  rintro E w2 ⟨rfl, hb2⟩
  have Y2 := Lib.hid (Y1.out.bel hb2)
  have pH2 := Y2.out.rd.ptr
  have hbw2 := Y2.out.rd.lt
  clear HO hb2
  have hcw2 := RB.ltw hbw2
  have hbr1 : b.r < w2.heap.size + 1 := by omega
  have hcr1 : b.c < w2.heap.size + 1 := by omega
  have hbr2 : b.r < w2.heap.size + 1 + 1 := by omega
  have hcr2 : b.c < w2.heap.size + 1 + 1 := by omega
  have hbr3 : b.r < w2.heap.size + 1 + 1 + 1 := by omega
  have hcr3 : b.c < w2.heap.size + 1 + 1 + 1 := by omega
  have hbr4 : b.r < w2.heap.size + 1 + 1 + 1 + 1 := by omega
  have hcr4 : b.c < w2.heap.size + 1 + 1 + 1 + 1 := by omega
  have hbr5 : b.r < w2.heap.size + 1 + 1 + 1 + 1 + 1 := by omega
  have hcr5 : b.c < w2.heap.size + 1 + 1 + 1 + 1 + 1 := by omega
  have hlen := Y2.out.rd.len
  obtain ⟨e0, c0, c1, c2, f1, f2⟩ := Y2.out.rd.cells
  have i0 := fun W => oidx_0 p0 p1 p2 p3 p4 p5 W
  have i1 := fun W => oidx_1 p0 p1 p2 p3 p4 p5 W
  have i2 := fun W => oidx_2 p0 p1 p2 p3 p4 p5 W
  have i3 := fun W => oidx_3 p0 p1 p2 p3 p4 p5 W
  have i4 := fun W => oidx_4 p0 p1 p2 p3 p4 p5 W
  have i5 := fun W => oidx_5 p0 p1 p2 p3 p4 p5 W
  generalize openV p0 p1 p2 p3 p4 p5 = ov at *
  go_wp2_with fail
  refine wp_loop_rounds 7 ?_
  rw [rounds_succ]
  go_wp2_with fail
  rw [rounds_succ]
  go_wp2_with fail
  rw [rounds_succ]
  go_wp2_with fail
  rw [rounds_succ]
  go_wp2_with fail
  rw [rounds_succ]
  go_wp2_with fail
  rw [rounds_succ]
  go_wp2_with fail
  rw [rounds_succ]
  go_wp2_with fail
  have Y3 := Lib.hid (fun o0 o1 o2 o3 o4 o5 => (((((((Y2.out).al o0).al o1).al o2).al o3).al o4).al o5))
  clear e0 c0 c1 c2 f1 f2 i0 i1 i2 i3 i4 i5
  have C := Lib.hid (fun o0 o1 o2 o3 o4 o5 => CC.out _ (Y3.out o0 o1 o2 o3 o4 o5).sd)
  refine (C.out _ _ _ _ _ _).mono ?_
  intro E w3 hP
  cases R with
  | bad j c =>
    obtain ⟨rfl, hf⟩ := hP
    have HF := Lib.hid hf
    clear hf C
    go_wp2_with fail
    exact ⟨rfl, rfl, Fr.trans (Stt.fr (Y3.out _ _ _ _ _ _)) HF.out⟩
  | ok s m =>
    obtain ⟨va, vb, ve, rfl, hS, hr, hf⟩ := hP
    obtain ⟨Aa, ca, rfl⟩ := hS.a.slice
    obtain ⟨Ab, cb, rfl⟩ := hS.b.slice
    obtain ⟨Ae, ce, rfl⟩ := hS.e.slice
    have SE := Lib.hid ((Y3.out _ _ _ _ _ _).mv hr hf)
    have HS := Lib.hid (hS.mono (n' := w.heap.size + 1) (Stt.le (Y3.out _ _ _ _ _ _)) (Nat.le_refl _))
    have hqE := SE.out.q.lt
    clear hf hr hS C
    obtain ⟨z0, z1, z2, z3, z4, z5, z6, z7, r0, r1, r2, r3, r4, r5, r6, r7, y0, y1, y2, y3, y4, y5, y6, y7⟩ := SE.out.q.facts
    go_wp2_with fail
    exact bodyPost_ret (v := S3.sV s (.slice Aa s.args.length ca) (.slice Ab s.body.length cb) (.slice Ae s.els.length ce)) (by simp [results, Tryz.results18, go_sem, r0, r1, r2, r3, r4, r5, r6, r7]) rfl (SE.out.done HS.out)
end Go.Proofs.YtipepljmfgjbpaaGreatDoor.E6

namespace Go.Proofs.YtipepljmfgjbpaaGreatDoor.E6
open Go Go.RowKit Go.Sort Go.Proofs.YtipepljmfgjbpaaGreatDoor Go.Proofs.YtipepljmfgjbpaaGreatDoor.E5

theorem stm_calls {w : World} {l : TL} {v : Value} {b : RB} {i d : Nat} (h : Sd w l v b i d) (hll : l.length ≤ 1000000) (hd : d ≤ 100) (hB : ∀ n, i + 1 < n → n ≤ l.length → BLC l v b n (d + 1)) :
    Calls Tryz.prog 18 #[rp b] w (PostS w l v b d (oneS l (fun n => blR l n (d + 1)) i)) := by
  have ne : ∀ {p : Bytes}, kwAt l i ≠ p → (p == kwAt l i) = false := fun h => beq_eq_false_iff_ne.2 (Ne.symm h)
  have eq : ∀ {p : Bytes}, kwAt l i = p → (p == kwAt l i) = true := fun h => by rw [h]; exact beq_self_eq_true _
  have lt : ∀ {p : Bytes}, kwAt l i = p → p ≠ [] → i < l.length := fun h hp => kwAt_lt h hp
  unfold oneS
  by_cases h0 : kwAt l i = wVar
  · rw [if_pos h0]; exact stm_0 h wVar wRead wPrint wReturn wIf wWhile openings_calls (eq h0) _ (lt h0 (by decide)) fun W hW => decl_calls hW
  rw [if_neg h0]
  by_cases h1 : kwAt l i = wRead
  · rw [if_pos h1]; exact stm_1 h wVar wRead wPrint wReturn wIf wWhile openings_calls (ne h0) (eq h1) _ (lt h1 (by decide)) fun W hW => input_calls hW
  rw [if_neg h1]
  by_cases h2 : kwAt l i = wPrint
  · rw [if_pos h2]; exact stm_2 h wVar wRead wPrint wReturn wIf wWhile openings_calls (ne h0) (ne h1) (eq h2) _ (lt h2 (by decide)) fun W hW => output_calls hW
  rw [if_neg h2]
  by_cases h3 : kwAt l i = wReturn
  · rw [if_pos h3]; exact stm_3 h wVar wRead wPrint wReturn wIf wWhile openings_calls (ne h0) (ne h1) (ne h2) (eq h3) _ (lt h3 (by decide)) fun W hW => ret_calls hW
  rw [if_neg h3]
  by_cases h4 : kwAt l i = wIf
  · rw [if_pos h4]; exact stm_4 h wVar wRead wPrint wReturn wIf wWhile openings_calls (ne h0) (ne h1) (ne h2) (ne h3) (eq h4) _ (lt h4 (by decide)) fun W hW => br_calls hW hd hB
  rw [if_neg h4]
  by_cases h5 : kwAt l i = wWhile
  · rw [if_pos h5]; exact stm_5 h wVar wRead wPrint wReturn wIf wWhile openings_calls (ne h0) (ne h1) (ne h2) (ne h3) (ne h4) (eq h5) _ (lt h5 (by decide)) fun W hW => loop_calls hW hd hB
  rw [if_neg h5]
  exact stm_6 h wVar wRead wPrint wReturn wIf wWhile openings_calls (ne h0) (ne h1) (ne h2) (ne h3) (ne h4) (ne h5) _ fun W hW => nam_calls hW hll

/-! ### a block -/
theorem SIs.keep {w w' : World} {R R' : Nat → Prop} {s : St} {va vb ve : Value} (h : SIs w R s va vb ve) (hR : ∀ b, R b → R' b) (hk : ∀ b i, R b → w'.cell? ⟨b, i, none⟩ = w.cell? ⟨b, i, none⟩) : SIs w' R' s va vb ve :=
  ⟨h.ok, h.a.keep hR hk, h.b.keep hR hk, h.e.keep hR hk⟩
def kS6 : S3.RowKind St (Value × Value × Value) := ⟨27, 8, fun s x => S3.sC s x.1 x.2.1 x.2.2, fun w R s x => SIs w R s x.1 x.2.1 x.2.2, fun _ _ => rfl, fun h hR hk => h.keep hR hk⟩
theorem sr_gr {base : Nat} {v : Value} {wr : World} {l : List St} (h : S3.GrI kS6 base l v wr) (hl : l.length ≤ 9223372036854775807) : S3.SR wr (Rn base wr.heap.size) l v := by
  rcases h.done with ⟨rfl, A, c, rfl⟩ | ⟨g, cap, V, rfl, hg, hr, hp⟩
  · exact S3.SR.nil _ _
  · have k := fun (i : Nat) (s : St) hi => SIs.keep (w' := wr) (R' := Rn base wr.heap.size) (hp i s hi) (fun b hb => ⟨hb.1, hb.2.1⟩) fun _ _ _ => rfl
    exact S3.SR.of_row (V := V) hr ⟨hg, hr.lt⟩ hl (fun i e hi => (k i e hi).ok) (fun i e hi => (k i e hi).a) (fun i e hi => (k i e hi).b) (fun i e hi => (k i e hi).e)
theorem grs_fr {base : Nat} {l : List St} {v : Value} {wr w' : World} (h : S3.GrI kS6 base l v wr) {b : RB} (hb : b.r < base) (hf : Fr b wr w') : S3.GrI kS6 base l v w' := h.keep hf.size fun k h1 h2 => hf.block k h2 (Nat.lt_of_lt_of_le hb h1)
/-- What has been read of a block. -/
structure LB (w : World) (l : TL) (v : Value) (b : RB) (d i : Nat) (r : RBl) (acc : List St) (n : Nat) (x : Value) (wr : World) : Prop where
  sd : Sd wr l v b n d
  gr : S3.GrI kS6 w.heap.size acc x wr
  fr : Fr b w wr
  af : r = lsR l acc n d
  le : acc.length ≤ n
  lt : i < n
theorem LB.step {w wr w1 : World} {l : TL} {v : Value} {b : RB} {d i n' : Nat} {r : RBl} {acc : List St} {x : Value} {s : St} {va vb ve : Value} (hbw : b.r < w.heap.size) (hgr : S3.GrI kS6 w.heap.size acc x wr) (hfr : Fr b w wr)
    (hE : SIs w1 (Rn wr.heap.size w1.heap.size) s va vb ve) (hR : Sd w1 l v b n' d) (hF : Fr b wr w1) (ha : r = lsR l (acc ++ [s]) n' d) (hle : acc.length + 1 ≤ n') (hlt : i < n') :
    ∃ xs, w1.ownsRow w.heap.size 27 8 x acc.length xs ∧ (∀ o g cap w8, w8.ownsRow w.heap.size 27 8 (.slice (some ⟨g, 0, none⟩) (acc.length + 1) cap) (acc.length + 1) (xs ++ S3.sC s va vb ve) → (w1.alloc o).grownBy w8 x.ownBlock → (x.ownBlock = some g ∨ g = (w1.alloc o).heap.size) →
      LB w l v b d i r (acc ++ [s]) n' (.slice (some ⟨g, 0, none⟩) (acc.length + 1) cap) w8) := by
  have hg1 := grs_fr hgr hbw hF
  have hp := hgr.part (a := s) (x := (va, vb, ve)) (w1 := w1) hE
  obtain ⟨xs, hown, hst⟩ := hg1.own
  refine ⟨xs, hown, fun o g cap w8 h8 hg hat => ?_⟩
  obtain ⟨h1, h2⟩ := hst s (va, vb, ve) o g cap w8 hp h8 hg hat
  exact ⟨⟨hR.rd.belM hbw h2, hR.gw.bel (M := w.heap.size) (by have := hR.rd.big; omega) h2⟩, h1, (hfr.trans hF).belB h2, ha, by rw [List.length_append]; exact hle, hlt⟩
set_option maxRecDepth 100000 in
set_option maxHeartbeats 2000000 in
theorem blk_no {w : World} {l : TL} {v : Value} {b : RB} {i d : Nat} (h : Sd w l v b i d) (hs : sgAt l i ≠ [123]) :
    Calls Tryz.prog 23 #[rp b] w (PostB w l v b d (.bad i 7)) := by
  have T := Lib.hid (fun W (hW : Rd W l v b i d) => rsign_calls hW)
  have H := Lib.hid h.rd
  have pH := h.rd.ptr
  have hbw := h.rd.lt
  have q : (sgAt l i == [123]) = false := beq_eq_false_iff_ne.2 hs
  clear h hs
  generalize sgAt l i = t at *
  go_enter Tryz.func23, Tryz.ntmps23
  go_wp2_with fail
  go_region_with (first
    | (go_at_call 40; refine (T.out _ (by exact H.out.dr)).mono ?_; rintro e w1 ⟨rfl, hb1⟩; have HB1 := Lib.hid (after (Below.refl _ w).drew hb1); have H1 := Lib.hid (H.out.dr.bel hb1); have pH1 := H1.out.ptr; clear hb1)
    | (go_at_call 39; refine (need_no H1.out).mono ?_; rintro e w3 ⟨rfl, rfl⟩; go_simp; refine fake_any (by exact ⟨rfl, rfl, Fr.of HB1.out⟩) ?_))
  all_goals exact trivial
set_option maxRecDepth 100000 in
set_option maxHeartbeats 2000000 in
theorem blk_deep {w : World} {l : TL} {v : Value} {b : RB} {i d : Nat} (h : Sd w l v b i d) (hs : sgAt l i = [123]) (hd : 20 < d) :
    Calls Tryz.prog 23 #[rp b] w (PostB w l v b d (.bad i 8)) := by
  have KY := fun n os => rsign_calls (h.rd.rg n os)
  rw [hs] at KY
  have KY := Lib.hid KY
  have H := Lib.hid h
  have pH := h.rd.ptr
  have pR := fun n os => cell_regrown pH n os
  have hbw := h.rd.lt
  have q2 : (20 : Int) < (d : Int) := by omega
  clear h hs
  go_enter Tryz.func23, Tryz.ntmps23
  go_wp2_with fail
  refine wp_region_quiet_below (by kernel_rfl) (by kernel_rfl) ?_
  repeat (first | go_big_quiet_step (first | with_reducible exact Calls.regrown_of (KY.out _ _) | with_reducible exact Calls.regrown_of (need_yesB _ _)) | quiet_step (first | with_reducible exact Calls.regrown_of (KY.out _ _) | with_reducible exact Calls.regrown_of (need_yesB _ _)))
  refine wpQuiet_nil ?_
  intro _ hw'
  obtain ⟨⟨dq, osq⟩, hw''⟩ := hw'
  subst hw''
  have HB1 := Lib.hid (below_regrown w dq osq)
  have H1 := Lib.hid (H.out.bel (below_regrown w dq osq))
  clear pR KY
  generalize grow (redrawn w dq) osq = w1 at *
  obtain ⟨p0, c0, c1, c2, f1, f2⟩ := H1.out.rd.cells
  go_wp2_with fail
  go_still_tail 11, (by kernel_rfl)
  change wpList _ _ _ _ _ w1.drew
  have hdr := Lib.hid ((Below.refl w1.heap.size w1).drew)
  generalize w1.drew = wd at *
  go_wp2_with fail
  refine (fail_calls b.c i 8 wd).mono ?_
  rintro e w3 ⟨rfl, rfl⟩
  go_wp2_with fail
  exact ⟨rfl, rfl, (Fr.of HB1.out).trans (Fr.of hdr.out)⟩
set_option maxRecDepth 100000 in
set_option maxHeartbeats 2000000 in
theorem blk_ok {w : World} {l : TL} {v : Value} {b : RB} {i d : Nat} (h : Sd w l v b i d) (hs : sgAt l i = [123]) (hd : d ≤ 20) (hll : l.length ≤ 1000000) (hST : ∀ n, i < n → n ≤ l.length → STC l v b n d) (r : RBl) (hr : r = lsR l [] (i + 1) d) :
    Calls Tryz.prog 23 #[rp b] w (PostB w l v b d (r)) := by
  have KY := fun n os => rsign_calls (h.rd.rg n os)
  rw [hs] at KY
  have KY := Lib.hid KY
  have H := Lib.hid h
  have pH := h.rd.ptr
  have pR := fun n os => cell_regrown pH n os
  have hbw := h.rd.lt
  have q2 : ¬ (20 : Int) < (d : Int) := by omega
  have hi := sgAt_lt hs (by simp)
  have HR := Lib.hid hr
  have HST := Lib.hid hST
  obtain ⟨i0, hi0, hz0, hz1, hz2⟩ := info_parts S3.infoS
  have HI0 := Lib.hid hi0
  have HZ0 := Lib.hid hz0
  have HZ1 := Lib.hid hz1
  have HZ2 := Lib.hid hz2
  clear h hs hr hST hi0 hz0 hz1 hz2
  go_enter Tryz.func23, Tryz.ntmps23
  go_wp2_with fail
  refine wp_region_quiet_below (by kernel_rfl) (by kernel_rfl) ?_
  repeat (first | go_big_quiet_step (first | with_reducible exact Calls.regrown_of (KY.out _ _) | with_reducible exact Calls.regrown_of (need_yesB _ _)) | quiet_step (first | with_reducible exact Calls.regrown_of (KY.out _ _) | with_reducible exact Calls.regrown_of (need_yesB _ _)))
  refine wpQuiet_nil ?_
  intro _ hw'
  obtain ⟨⟨dq, osq⟩, hw''⟩ := hw'
  subst hw''
  have HB1 := Lib.hid (below_regrown w dq osq)
  have H1 := Lib.hid (H.out.bel (below_regrown w dq osq))
  clear pR KY
  generalize grow (redrawn w dq) osq = w1 at *
  obtain ⟨p0, c0, c1, c2, f1, f2⟩ := H1.out.rd.cells
  have hlen := H1.out.rd.len
  go_wp2_with fail
  have F2 := Lib.hid ((Fr.of (b := b) HB1.out).setA (.int .i64 ((i : Int) + 1)))
  have H2 := Lib.hid (H1.out.mv (H1.out.rd.inc1 hi) ((Fr.refl b w1).setA (.int .i64 ((i : Int) + 1))))
  clear p0 c0 c1 c2 f1 f2
  generalize w1.setCell ⟨b.c, 1, none⟩ (.int .i64 ((i : Int) + 1)) = w2 at *
  have HN := Lib.hid (show LB w l v b d i r [] (i + 1) (.slice none 0 0) w2 from ⟨H2.out, S3.GrI.start kS6 F2.out.size (fun _ => (.bool false, .bool false, .bool false)), F2.out, HR.out, by simp, by omega⟩)
  clear F2 H2 HR H1 HB1
  go_loopw [3] (fun x wr => ∃ acc n, Hid (LB w l v b d i r acc n x wr) ∧ ∃ Ax cx, x = .slice Ax acc.length cx) (fun _ wr => l.length - atOf b wr)
  case atStart => exact ⟨_, _, HN, _, _, rfl⟩
  case round =>
    clear HN
    obtain ⟨acc, n, HI, Ax, cx, hx⟩ := hrel
    have pHI := HI.out.sd.rd.ptr
    have HX := Lib.hid hx
    clear hx
    have hnl0 := HI.out.sd.rd.hi
    have hacc := HI.out.le
    have hin := HI.out.lt
    have haf := HI.out.af
    rw [lsR_eq l acc n d hnl0] at haf
    have S := Lib.hid (rsign_calls HI.out.sd.rd)
    have hbwr := HI.out.sd.rd.lt
    by_cases hc : sgAt l n = [125]
    · have hq : (sgAt l n == [125]) = true := by rw [hc]; rfl
      have hnl := sgAt_lt hc (by simp)
      rw [if_pos hc] at haf
      have HAF := Lib.hid haf
      have HER := Lib.hid (sr_gr HI.out.gr (by omega))
      clear hc haf
      obtain rfl := HX.out
      generalize sgAt l n = t at *
      go_wp2_with fail
      refine S.out.mono ?_
      rintro E wa ⟨rfl, hb⟩
      have Ra := Lib.hid (HI.out.sd.rd.bel hb)
      have Fa := Lib.hid (HI.out.fr.trans (Fr.of (b := b) hb))
      have Ea := Lib.hid (sr_bel HER.out hb)
      clear hb
      obtain ⟨p0, c0, c1, c2, f1, f2⟩ := Ra.out.cells
      have hlen := Ra.out.len
      go_wp2_with fail
      go_ret
      rw [HAF.out]
      exact ⟨_, _, rfl, sr_fr (w := wa) Ea.out hbw ((Fr.refl b _).setA _), Ra.out.inc1 hnl, Fa.out.setA _⟩
    · have hq : (sgAt l n == [125]) = false := beq_eq_false_iff_ne.2 hc
      rw [if_neg hc] at haf
      have hwin := stR_within l n d hnl0
      have C := HST.out n hin hnl0
      unfold STC at C
      cases hE : stR l n d with
      | bad j c' =>
        rw [hE] at haf C
        have HAF := Lib.hid haf
        have C := Lib.hid C
        clear hc haf hE hwin
        generalize sgAt l n = t at *
        go_wp2_with fail
        refine S.out.mono ?_
        rintro E wa ⟨rfl, hb⟩
        have Ra := Lib.hid (HI.out.sd.bel hb)
        have Fa := Lib.hid (HI.out.fr.trans (Fr.of (b := b) hb))
        clear hb
        go_wp2_with fail
        refine (C.out _ Ra.out).mono ?_
        rintro E wb ⟨rfl, hf⟩
        have Fb := Lib.hid (Fa.out.trans hf)
        clear hf
        go_wp2_with fail
        rw [HAF.out]
        exact ⟨rfl, rfl, Fb.out⟩
      | ok s n' =>
        rw [hE] at haf C hwin
        simp only [RS.within] at hwin
        have HAF := Lib.hid haf
        have C := Lib.hid C
        have HM := Lib.hid (atOf_is HI.out.sd.rd)
        clear hc haf hE
        generalize sgAt l n = t at *
        go_wp2_with fail
        refine S.out.mono ?_
        rintro E wa ⟨rfl, hb⟩
        have Ra := Lib.hid (HI.out.sd.bel hb)
        have Fa := Lib.hid (Fr.of (b := b) hb)
        clear hb
        go_wp2_with fail
        refine (C.out _ Ra.out).mono ?_
        rintro E wc ⟨va, vb, ve, rfl, hS, hr, hf⟩
        obtain ⟨A5, c5, rfl⟩ := hS.a.slice
        obtain ⟨A6, c6, rfl⟩ := hS.b.slice
        obtain ⟨A7, c7, rfl⟩ := hS.e.slice
        have hsc := Ra.out.mv hr hf
        obtain ⟨ys, hown, hst⟩ := LB.step (r := r) (i := i) hbw (grs_fr HI.out.gr hbw Fa.out) (HI.out.fr.trans Fa.out) hS hsc hf HAF.out (by omega) (by omega)
        have HOW := Lib.hid hown
        have HSTP := Lib.hid hst
        have hzc := ((HI.out.fr.trans Fa.out).trans hf).size
        clear hS hr hf hown hst hsc
        go_wp2_with (at_builtin; go_loud (refine wpList_append_lies _ rfl (.tmp 48) (.tmp 51) 25 rfl w.heap.size 27 i0 _ 8 128 Tryz.underlying25 HI0.out HZ0.out HZ1.out HZ2.out rfl (by decide) u3 acc.length ys rfl (HOW.out.alloc _) ⟨wc.heap.size, 0, none⟩ 1 1 (S3.sC s (.slice A5 s.args.length c5) (.slice A6 s.body.length c6) (.slice A7 s.els.length c7)) rfl rfl (news_new _ _ _ _ rfl) (by intro u hu; simp [S3.sC] at hu; rcases hu with rfl | rfl | rfl | rfl | rfl | rfl | rfl | rfl <;> rfl) (by decide) (by unfold maxLen; omega) (by omega) (by simp; omega) _ rfl ?_))
        intro g8 cap8 w8 hown8 hgr8 hat hlt8
        have HN := Lib.hid (HSTP.out _ g8 cap8 w8 hown8 hgr8 (by rcases hat with h | h; exact .inl h; exact .inr (by rw [h]; simp)))
        have HA := Lib.hid (atOf_is HN.out.sd.rd)
        have hn8 := HN.out.sd.rd.hi
        clear hown8 hgr8 hat hlt8 HOW HSTP
        go_wp2_with fail
        go_roundw
        case rel => exact ⟨_, _, HN, _, _, by rw [List.length_append]; rfl⟩
        case measure => rw [HA.out, HM.out]; omega
theorem all_calls (l : TL) (v : Value) (b : RB) (hll : l.length ≤ 1000000) : ∀ k i, i ≤ l.length → l.length - i ≤ k → (∀ d, d ≤ 21 → STC l v b i d) ∧ (∀ d, d ≤ 22 → BLC l v b i d) := by
  intro k
  induction k using Nat.strongRecOn with
  | ind k ih =>
    intro i hi hk
    have hup : ∀ n, i < n → n ≤ l.length → (∀ d, d ≤ 21 → STC l v b n d) ∧ (∀ d, d ≤ 22 → BLC l v b n d) := fun n h1 h2 => ih (l.length - n) (by omega) n h2 (Nat.le_refl _)
    refine ⟨fun d hd W hW => ?_, fun d hd W hW => ?_⟩
    · rw [stR_eq l i d hi]
      exact stm_calls hW hll (by omega) fun n h1 h2 => (hup n (by omega) h2).2 (d + 1) (by omega)
    · rw [blR_eq l i d hi]
      by_cases hs : sgAt l i = [123]
      · rw [if_pos hs]
        by_cases h20 : 20 < d
        · rw [if_pos h20]; exact blk_deep hW hs h20
        · rw [if_neg h20]; exact blk_ok hW hs (by omega) hll (fun n h1 h2 => (hup n h1 h2).1 d (by omega)) _ rfl
      · rw [if_neg hs]; exact blk_no hW hs
theorem rstmt_calls {w : World} {l : TL} {v : Value} {b : RB} {i d : Nat} (h : Sd w l v b i d) (hll : l.length ≤ 1000000) (hd : d ≤ 21) :
    Calls Tryz.prog 18 #[rp b] w (PostS w l v b d (stR l i d)) := (all_calls l v b hll _ i h.rd.hi (Nat.le_refl _)).1 d hd w h
theorem rblock_calls {w : World} {l : TL} {v : Value} {b : RB} {i d : Nat} (h : Sd w l v b i d) (hll : l.length ≤ 1000000) (hd : d ≤ 21) :
    Calls Tryz.prog 23 #[rp b] w (PostB w l v b d (blR l i d)) := (all_calls l v b hll _ i h.rd.hi (Nat.le_refl _)).2 d (by omega) w h
end Go.Proofs.YtipepljmfgjbpaaGreatDoor.E6
