/-
  The document's own reading of expressions: nested: contracts. Written by gen5_ref.py.
-/
import Derived.Test.YtlhifbckmknijaaGreatDoorERef2
import Derived.BigRegion
import Derived.Deep.RegionWith
import Derived.Deep.RegionHeld3
namespace Go.Proofs.YtlhifbckmknijaaGreatDoor.E5
open Go Go.RowKit Go.Proofs.YtlhifbckmknijaaGreatDoor

theorem okE4 {op : Int} {e : Ex} (h : op = 14 ∨ op = 15) : S3.OkE ⟨4, op, 0, [], [e]⟩ := by
  rcases h with rfl | rfl
  · exact okE_op (by decide) (okI_small (by decide) (by decide)) (by decide)
  · exact okE_op (by decide) (okI_small (by decide) (by decide)) (by decide)
set_option maxRecDepth 100000 in
set_option maxHeartbeats 2000000 in
theorem rns_none {w : World} {l : TL} {v : Value} (hT : TokL w w.heap.size v l) (_hll : l.length ≤ 1000000) (i : Nat) (_hi : i ≤ l.length) (d : Nat) (_hd : d ≤ 9223372036854775807) (h1 : sgAt l i ≠ [45]) (h2 : sgAt l i ≠ [33]) (h3 : sgAt l i ≠ [40]) :
    Calls Tryz.prog 134 #[v, .int .i64 (i : Int), .int .i64 (d : Int)] w (PostP w (.bad i 7)) := by
  have q1 : (sgAt l i == [45]) = false := beq_eq_false_iff_ne.2 h1
  have q2 : (sgAt l i == [33]) = false := beq_eq_false_iff_ne.2 h2
  have q3 : (sgAt l i == [40]) = false := beq_eq_false_iff_ne.2 h3
  have HT0 := Lib.hid (fun o => tokU hT (S3.bal w o))
  have Q := Lib.hid (fun a0 a1 a2 a3 a4 => R5.new w a0 a1 a2 a3 a4)
  clear hT
  go_enter Tryz.func134, Tryz.ntmps134
  try simp only [List.append_eq, List.cons_append, List.nil_append]
  go_wp2_with fail
  refine (rsg_is (HT0.out _) q1 (by simp) (by omega)).mono ?_
  rintro E w1 ⟨rfl, hb⟩
  have HB1 := Lib.hid (hb)
  have HT1 := Lib.hid (tokU (HT0.out _) hb)
  clear hb
  go_wp2_with fail
  refine (rsg_is HT1.out q2 (by simp) (by omega)).mono ?_
  rintro E w2 ⟨rfl, hb⟩
  have HB2 := Lib.hid (after HB1.out hb)
  have HT2 := Lib.hid (tokU HT1.out hb)
  clear hb
  go_wp2_with fail
  refine (rsg_is HT2.out q3 (by simp) (by omega)).mono ?_
  rintro E w3 ⟨rfl, hb⟩
  have HB3 := Lib.hid (after HB2.out hb)
  have HT3 := Lib.hid (tokU HT2.out hb)
  clear hb
  obtain ⟨z0, z1, z2, z3, z4, r0, r1, r2, r3, r4, y0, y1, y2, y3, y4⟩ := ((Q.out _ _ _ _ _).bel HB3.out).facts
  have hq1 := ((Q.out _ _ _ _ _).bel HB3.out).lt
  have HF := Lib.hid (parse_fin zE none 0 0 HB3.out (zE_in _ _)).2
  go_wp2_with fail
  exact bodyPost_ret (v := .tuple #[S3.eV zE (.slice none 0 0), .int .i64 (i : Int), .int .i64 7]) (by simp [results, Tryz.results134, go_sem, zE, r0, r1, r2, r3, r4]) rfl ⟨rfl, HF.out⟩
set_option maxRecDepth 100000 in
set_option maxHeartbeats 2000000 in
theorem rns_deep_min {w : World} {l : TL} {v : Value} (hT : TokL w w.heap.size v l) (_hll : l.length ≤ 1000000) (i : Nat) (_hi : i ≤ l.length) (d : Nat) (_hd : d ≤ 9223372036854775807) (hs : sgAt l i = [45]) (h40 : 40 ≤ d) :
    Calls Tryz.prog 134 #[v, .int .i64 (i : Int), .int .i64 (d : Int)] w (PostP w (.bad i 8)) := by
  have q1 : (sgAt l i == [45]) = true := by rw [hs]; rfl
  have q2 : (sgAt l i == [33]) = false := by rw [hs]; rfl
  have h40' : (40 : Int) ≤ (d : Int) := by omega
  have HT0 := Lib.hid (fun o => tokU hT (S3.bal w o))
  have Q := Lib.hid (fun a0 a1 a2 a3 a4 => R5.new w a0 a1 a2 a3 a4)
  clear hT
  go_enter Tryz.func134, Tryz.ntmps134
  try simp only [List.append_eq, List.cons_append, List.nil_append]
  go_wp2_with fail
  refine (rsg_is (HT0.out _) q1 (by simp) (by omega)).mono ?_
  rintro E w1 ⟨rfl, hb⟩
  have HB1 := Lib.hid (hb)
  have HT1 := Lib.hid (tokU (HT0.out _) hb)
  clear hb
  go_wp2_with fail
  refine (rsg_is HT1.out q2 (by simp) (by omega)).mono ?_
  rintro E w2 ⟨rfl, hb⟩
  have HB2 := Lib.hid (after HB1.out hb)
  have HT2 := Lib.hid (tokU HT1.out hb)
  clear hb
  obtain ⟨z0, z1, z2, z3, z4, r0, r1, r2, r3, r4, y0, y1, y2, y3, y4⟩ := ((Q.out _ _ _ _ _).bel HB2.out).facts
  have hq1 := ((Q.out _ _ _ _ _).bel HB2.out).lt
  have HF := Lib.hid (parse_fin zE none 0 0 HB2.out (zE_in _ _)).2
  go_wp2_with fail
  exact bodyPost_ret (v := .tuple #[S3.eV zE (.slice none 0 0), .int .i64 (i : Int), .int .i64 8]) (by simp [results, Tryz.results134, go_sem, zE, r0, r1, r2, r3, r4]) rfl ⟨rfl, HF.out⟩
set_option maxRecDepth 100000 in
set_option maxHeartbeats 2000000 in
theorem rns_deep_not {w : World} {l : TL} {v : Value} (hT : TokL w w.heap.size v l) (_hll : l.length ≤ 1000000) (i : Nat) (_hi : i ≤ l.length) (d : Nat) (_hd : d ≤ 9223372036854775807) (hs : sgAt l i = [33]) (h40 : 40 ≤ d) :
    Calls Tryz.prog 134 #[v, .int .i64 (i : Int), .int .i64 (d : Int)] w (PostP w (.bad i 8)) := by
  have q1 : (sgAt l i == [45]) = false := by rw [hs]; rfl
  have q2 : (sgAt l i == [33]) = true := by rw [hs]; rfl
  have h40' : (40 : Int) ≤ (d : Int) := by omega
  have HT0 := Lib.hid (fun o => tokU hT (S3.bal w o))
  have Q := Lib.hid (fun a0 a1 a2 a3 a4 => R5.new w a0 a1 a2 a3 a4)
  clear hT
  go_enter Tryz.func134, Tryz.ntmps134
  try simp only [List.append_eq, List.cons_append, List.nil_append]
  go_wp2_with fail
  refine (rsg_is (HT0.out _) q1 (by simp) (by omega)).mono ?_
  rintro E w1 ⟨rfl, hb⟩
  have HB1 := Lib.hid (hb)
  have HT1 := Lib.hid (tokU (HT0.out _) hb)
  clear hb
  go_wp2_with fail
  refine (rsg_is HT1.out q2 (by simp) (by omega)).mono ?_
  rintro E w2 ⟨rfl, hb⟩
  have HB2 := Lib.hid (after HB1.out hb)
  have HT2 := Lib.hid (tokU HT1.out hb)
  clear hb
  obtain ⟨z0, z1, z2, z3, z4, r0, r1, r2, r3, r4, y0, y1, y2, y3, y4⟩ := ((Q.out _ _ _ _ _).bel HB2.out).facts
  have hq1 := ((Q.out _ _ _ _ _).bel HB2.out).lt
  have HF := Lib.hid (parse_fin zE none 0 0 HB2.out (zE_in _ _)).2
  go_wp2_with fail
  exact bodyPost_ret (v := .tuple #[S3.eV zE (.slice none 0 0), .int .i64 (i : Int), .int .i64 8]) (by simp [results, Tryz.results134, go_sem, zE, r0, r1, r2, r3, r4]) rfl ⟨rfl, HF.out⟩
set_option maxRecDepth 100000 in
set_option maxHeartbeats 2000000 in
theorem rns_deep_par {w : World} {l : TL} {v : Value} (hT : TokL w w.heap.size v l) (_hll : l.length ≤ 1000000) (i : Nat) (_hi : i ≤ l.length) (d : Nat) (_hd : d ≤ 9223372036854775807) (hs : sgAt l i = [40]) (h40 : 40 ≤ d) :
    Calls Tryz.prog 134 #[v, .int .i64 (i : Int), .int .i64 (d : Int)] w (PostP w (.bad i 8)) := by
  have q1 : (sgAt l i == [45]) = false := by rw [hs]; rfl
  have q2 : (sgAt l i == [33]) = false := by rw [hs]; rfl
  have q3 : (sgAt l i == [40]) = true := by rw [hs]; rfl
  have h40' : (40 : Int) ≤ (d : Int) := by omega
  have HT0 := Lib.hid (fun o => tokU hT (S3.bal w o))
  have Q := Lib.hid (fun a0 a1 a2 a3 a4 => R5.new w a0 a1 a2 a3 a4)
  clear hT
  go_enter Tryz.func134, Tryz.ntmps134
  try simp only [List.append_eq, List.cons_append, List.nil_append]
  go_wp2_with fail
  refine (rsg_is (HT0.out _) q1 (by simp) (by omega)).mono ?_
  rintro E w1 ⟨rfl, hb⟩
  have HB1 := Lib.hid (hb)
  have HT1 := Lib.hid (tokU (HT0.out _) hb)
  clear hb
  go_wp2_with fail
  refine (rsg_is HT1.out q2 (by simp) (by omega)).mono ?_
  rintro E w2 ⟨rfl, hb⟩
  have HB2 := Lib.hid (after HB1.out hb)
  have HT2 := Lib.hid (tokU HT1.out hb)
  clear hb
  go_wp2_with fail
  refine (rsg_is HT2.out q3 (by simp) (by omega)).mono ?_
  rintro E w3 ⟨rfl, hb⟩
  have HB3 := Lib.hid (after HB2.out hb)
  have HT3 := Lib.hid (tokU HT2.out hb)
  clear hb
  obtain ⟨z0, z1, z2, z3, z4, r0, r1, r2, r3, r4, y0, y1, y2, y3, y4⟩ := ((Q.out _ _ _ _ _).bel HB3.out).facts
  have hq1 := ((Q.out _ _ _ _ _).bel HB3.out).lt
  have HF := Lib.hid (parse_fin zE none 0 0 HB3.out (zE_in _ _)).2
  go_wp2_with fail
  exact bodyPost_ret (v := .tuple #[S3.eV zE (.slice none 0 0), .int .i64 (i : Int), .int .i64 8]) (by simp [results, Tryz.results134, go_sem, zE, r0, r1, r2, r3, r4]) rfl ⟨rfl, HF.out⟩
set_option maxRecDepth 100000 in
set_option maxHeartbeats 2000000 in
theorem rns_bad_min {w : World} {l : TL} {v : Value} (hT : TokL w w.heap.size v l) (_hll : l.length ≤ 1000000) (i : Nat) (_hi : i ≤ l.length) (d : Nat) (_hd : d ≤ 9223372036854775807) (hs : sgAt l i = [45]) (h40 : d < 40) (C : OPR l v (i + 1) (d + 1)) (j : Nat) (c : Int) (hc : c ≠ 0) (hr : opdR l (i + 1) (d + 1) = .bad j c) :
    Calls Tryz.prog 134 #[v, .int .i64 (i : Int), .int .i64 (d : Int)] w (PostP w (.bad j c)) := by
  have q1 : (sgAt l i == [45]) = true := by rw [hs]; rfl
  have q2 : (sgAt l i == [33]) = false := by rw [hs]; rfl
  have h40' : ¬ (40 : Int) ≤ (d : Int) := by omega
  have C := Lib.hid C
  have HT0 := Lib.hid (fun o => tokU hT (S3.bal w o))
  have Q := Lib.hid (fun a0 a1 a2 a3 a4 => R5.new w a0 a1 a2 a3 a4)
  clear hT
  go_enter Tryz.func134, Tryz.ntmps134
  try simp only [List.append_eq, List.cons_append, List.nil_append]
  go_wp2_with fail
  refine (rsg_is (HT0.out _) q1 (by simp) (by omega)).mono ?_
  rintro E w1 ⟨rfl, hb⟩
  have HB1 := Lib.hid (hb)
  have HT1 := Lib.hid (tokU (HT0.out _) hb)
  clear hb
  go_wp2_with fail
  refine (rsg_is HT1.out q2 (by simp) (by omega)).mono ?_
  rintro E w2 ⟨rfl, hb⟩
  have HB2 := Lib.hid (after HB1.out hb)
  have HT2 := Lib.hid (tokU HT1.out hb)
  clear hb
  go_wp2_with fail
  rw [show (i : Int) + 1 = ((i + 1 : Nat) : Int) by omega, show (d : Int) + 1 = ((d + 1 : Nat) : Int) by omega]
  have C1 := C.out w2 HT2.out
  rw [hr] at C1
  refine C1.mono ?_
  clear C1
  rintro E w8 ⟨rfl, hb⟩
  have HB8 := Lib.hid (after HB2.out hb)
  have hq : (c == 0) = false := beq_eq_false_iff_ne.2 hc
  clear hb
  obtain ⟨z0, z1, z2, z3, z4, r0, r1, r2, r3, r4, y0, y1, y2, y3, y4⟩ := ((Q.out _ _ _ _ _).bel HB8.out).facts
  have hq1 := ((Q.out _ _ _ _ _).bel HB8.out).lt
  have S5 := fun o => put5_al ((Q.out _ _ _ _ _).bel HB8.out) (.int .i64 0) (.int .i64 0) (.int .i64 0) (.string ⟨#[]⟩) (.slice none 0 0) o
  have s0 := fun o => (S5 o).1
  have s1 := fun o => (S5 o).2.1
  have s2 := fun o => (S5 o).2.2.1
  have s3 := fun o => (S5 o).2.2.2.1
  have s4 := fun o => (S5 o).2.2.2.2
  have HF := Lib.hid (fun o => Below.alloc (parse_fin zE none 0 0 HB8.out (zE_in _ _)).2 (by rw [put5_size]; omega) o)
  clear S5
  go_wp2_with fail
  exact bodyPost_ret (v := .tuple #[S3.eV zE (.slice none 0 0), .int .i64 (j : Int), .int .i64 c]) (by simp [results, Tryz.results134, go_sem, zE, s0, s1, s2, s3, s4]) rfl ⟨rfl, HF.out _⟩
set_option maxRecDepth 100000 in
set_option maxHeartbeats 2000000 in
theorem rns_yes_min {w : World} {l : TL} {v : Value} (hT : TokL w w.heap.size v l) (_hll : l.length ≤ 1000000) (i : Nat) (_hi : i ≤ l.length) (d : Nat) (_hd : d ≤ 9223372036854775807) (hs : sgAt l i = [45]) (h40 : d < 40) (C : OPR l v (i + 1) (d + 1)) (e : Ex) (n : Nat) (hn1 : 1 ≤ n) (hnl : n ≤ l.length) (hr : opdR l (i + 1) (d + 1) = .ok e n) (hx : S3.exB ⟨4, 14, 0, [], [e]⟩ = true) :
    Calls Tryz.prog 134 #[v, .int .i64 (i : Int), .int .i64 (d : Int)] w (PostP w (.ok ⟨4, 14, 0, [], [e]⟩ n)) := by
  have q1 : (sgAt l i == [45]) = true := by rw [hs]; rfl
  have q2 : (sgAt l i == [33]) = false := by rw [hs]; rfl
  have h40' : ¬ (40 : Int) ≤ (d : Int) := by omega
  have C := Lib.hid C
  have HOO := Lib.hid (okE4 (op := 14) (e := e) (by decide))
  have HT0 := Lib.hid (fun o => tokU hT (S3.bal w o))
  have Q := Lib.hid (fun a0 a1 a2 a3 a4 => R5.new w a0 a1 a2 a3 a4)
  clear hT
  go_enter Tryz.func134, Tryz.ntmps134
  try simp only [List.append_eq, List.cons_append, List.nil_append]
  go_wp2_with fail
  refine (rsg_is (HT0.out _) q1 (by simp) (by omega)).mono ?_
  rintro E w1 ⟨rfl, hb⟩
  have HB1 := Lib.hid (hb)
  have HT1 := Lib.hid (tokU (HT0.out _) hb)
  clear hb
  go_wp2_with fail
  refine (rsg_is HT1.out q2 (by simp) (by omega)).mono ?_
  rintro E w2 ⟨rfl, hb⟩
  have HB2 := Lib.hid (after HB1.out hb)
  have HT2 := Lib.hid (tokU HT1.out hb)
  clear hb
  go_wp2_with fail
  rw [show (i : Int) + 1 = ((i + 1 : Nat) : Int) by omega, show (d : Int) + 1 = ((d + 1 : Nat) : Int) by omega]
  have C1 := C.out w2 HT2.out
  rw [hr] at C1
  refine C1.mono ?_
  clear C1
  rintro E w8 ⟨A, k, c, rfl, ho, hE, hb⟩
  have HB8 := Lib.hid (after HB2.out hb)
  have HT8 := Lib.hid (tokU HT2.out hb)
  have hL := HB2.out.size
  rw [S3.sz1] at hL
  have HE8 := Lib.hid (er_mono hE (show w.heap.size + 1 ≤ w2.heap.size by omega) (Nat.le_refl _))
  have HO8 := Lib.hid ho
  have hz8 := HB8.out.size
  rw [S3.sz1] at hz8
  clear hb hE ho
  go_wp2_with fail
  have HE9 := er_one HO8.out (n := w.heap.size + 1) (by rw [S3.sz1]; omega) (er_bel HE8.out (S3.bal w8 (S3.eO e (.slice A k c))))
  have HB9 := Lib.hid (after (after HB8.out (S3.bal w8 (S3.eO e (.slice A k c)))) (S3.bal (w8.alloc (S3.eO e (.slice A k c))) (S3.eO e (.slice A k c))))
  rw [show (w8.alloc (S3.eO e (.slice A k c))).heap.size = w8.heap.size + 1 from S3.sz1 _ _] at HE9
  have HE9 := Lib.hid HE9
  generalize (w8.alloc (S3.eO e (.slice A k c))).alloc (S3.eO e (.slice A k c)) = w9 at *
  refine (rmade_yes ⟨4, 14, 0, [], [e]⟩ HOO.out hx _ 1 1 (n : Int) (by omega) (by omega) w9 (er_in HE9.out (Nat.le_refl _))).mono ?_
  rintro E w10 ⟨rfl, hb⟩
  have HB10 := Lib.hid (after HB9.out hb)
  have HE10 := Lib.hid (er_bel HE9.out hb)
  clear hb
  obtain ⟨z0, z1, z2, z3, z4, r0, r1, r2, r3, r4, y0, y1, y2, y3, y4⟩ := ((Q.out _ _ _ _ _).bel HB10.out).facts
  have hq1 := ((Q.out _ _ _ _ _).bel HB10.out).lt
  have HF := Lib.hid (parse_fin ⟨4, 14, 0, [], [e]⟩ (some ⟨w8.heap.size + 1, 0, none⟩) 1 1 HB10.out HE10.out)
  go_wp2_with fail
  exact bodyPost_ret (v := .tuple #[S3.eV ⟨4, 14, 0, [], [e]⟩ (.slice (some ⟨w8.heap.size + 1, 0, none⟩) 1 1), .int .i64 (n : Int), .int .i64 0]) (by simp [results, Tryz.results134, go_sem, r0, r1, r2, r3, r4]) rfl ⟨(some ⟨w8.heap.size + 1, 0, none⟩), 1, 1, rfl, HOO.out, HF.out.1, HF.out.2⟩
set_option maxRecDepth 100000 in
set_option maxHeartbeats 2000000 in
theorem rns_made_min {w : World} {l : TL} {v : Value} (hT : TokL w w.heap.size v l) (_hll : l.length ≤ 1000000) (i : Nat) (_hi : i ≤ l.length) (d : Nat) (_hd : d ≤ 9223372036854775807) (hs : sgAt l i = [45]) (h40 : d < 40) (C : OPR l v (i + 1) (d + 1)) (e : Ex) (n : Nat) (hn1 : 1 ≤ n) (hnl : n ≤ l.length) (hr : opdR l (i + 1) (d + 1) = .ok e n) (hx : S3.exB ⟨4, 14, 0, [], [e]⟩ = false) :
    Calls Tryz.prog 134 #[v, .int .i64 (i : Int), .int .i64 (d : Int)] w (PostP w (.bad (n - 1) 8)) := by
  have q1 : (sgAt l i == [45]) = true := by rw [hs]; rfl
  have q2 : (sgAt l i == [33]) = false := by rw [hs]; rfl
  have h40' : ¬ (40 : Int) ≤ (d : Int) := by omega
  have C := Lib.hid C
  have HOO := Lib.hid (okE4 (op := 14) (e := e) (by decide))
  have HT0 := Lib.hid (fun o => tokU hT (S3.bal w o))
  have Q := Lib.hid (fun a0 a1 a2 a3 a4 => R5.new w a0 a1 a2 a3 a4)
  clear hT
  go_enter Tryz.func134, Tryz.ntmps134
  try simp only [List.append_eq, List.cons_append, List.nil_append]
  go_wp2_with fail
  refine (rsg_is (HT0.out _) q1 (by simp) (by omega)).mono ?_
  rintro E w1 ⟨rfl, hb⟩
  have HB1 := Lib.hid (hb)
  have HT1 := Lib.hid (tokU (HT0.out _) hb)
  clear hb
  go_wp2_with fail
  refine (rsg_is HT1.out q2 (by simp) (by omega)).mono ?_
  rintro E w2 ⟨rfl, hb⟩
  have HB2 := Lib.hid (after HB1.out hb)
  have HT2 := Lib.hid (tokU HT1.out hb)
  clear hb
  go_wp2_with fail
  rw [show (i : Int) + 1 = ((i + 1 : Nat) : Int) by omega, show (d : Int) + 1 = ((d + 1 : Nat) : Int) by omega]
  have C1 := C.out w2 HT2.out
  rw [hr] at C1
  refine C1.mono ?_
  clear C1
  rintro E w8 ⟨A, k, c, rfl, ho, hE, hb⟩
  have HB8 := Lib.hid (after HB2.out hb)
  have HT8 := Lib.hid (tokU HT2.out hb)
  have hL := HB2.out.size
  rw [S3.sz1] at hL
  have HE8 := Lib.hid (er_mono hE (show w.heap.size + 1 ≤ w2.heap.size by omega) (Nat.le_refl _))
  have HO8 := Lib.hid ho
  have hz8 := HB8.out.size
  rw [S3.sz1] at hz8
  clear hb hE ho
  go_wp2_with fail
  have HE9 := er_one HO8.out (n := w.heap.size + 1) (by rw [S3.sz1]; omega) (er_bel HE8.out (S3.bal w8 (S3.eO e (.slice A k c))))
  have HB9 := Lib.hid (after (after HB8.out (S3.bal w8 (S3.eO e (.slice A k c)))) (S3.bal (w8.alloc (S3.eO e (.slice A k c))) (S3.eO e (.slice A k c))))
  rw [show (w8.alloc (S3.eO e (.slice A k c))).heap.size = w8.heap.size + 1 from S3.sz1 _ _] at HE9
  have HE9 := Lib.hid HE9
  generalize (w8.alloc (S3.eO e (.slice A k c))).alloc (S3.eO e (.slice A k c)) = w9 at *
  refine (rmade_no ⟨4, 14, 0, [], [e]⟩ HOO.out hx _ 1 1 (n : Int) (by omega) (by omega) w9 (er_in HE9.out (Nat.le_refl _))).mono ?_
  rintro E w10 ⟨rfl, hb⟩
  have HB10 := Lib.hid (after HB9.out hb)
  have HE10 := Lib.hid (er_bel HE9.out hb)
  clear hb
  obtain ⟨z0, z1, z2, z3, z4, r0, r1, r2, r3, r4, y0, y1, y2, y3, y4⟩ := ((Q.out _ _ _ _ _).bel HB10.out).facts
  have hq1 := ((Q.out _ _ _ _ _).bel HB10.out).lt
  have HF := Lib.hid (parse_fin zE none 0 0 HB10.out (zE_in _ _)).2
  go_wp2_with fail
  exact bodyPost_ret (v := .tuple #[S3.eV zE (.slice none 0 0), .int .i64 ((n : Int) - 1), .int .i64 8]) (by simp [results, Tryz.results134, go_sem, zE, r0, r1, r2, r3, r4]) rfl ⟨by rw [show ((n - 1 : Nat) : Int) = (n : Int) - 1 by omega], HF.out⟩
set_option maxRecDepth 100000 in
set_option maxHeartbeats 2000000 in
theorem rns_bad_not {w : World} {l : TL} {v : Value} (hT : TokL w w.heap.size v l) (_hll : l.length ≤ 1000000) (i : Nat) (_hi : i ≤ l.length) (d : Nat) (_hd : d ≤ 9223372036854775807) (hs : sgAt l i = [33]) (h40 : d < 40) (C : OPR l v (i + 1) (d + 1)) (j : Nat) (c : Int) (hc : c ≠ 0) (hr : opdR l (i + 1) (d + 1) = .bad j c) :
    Calls Tryz.prog 134 #[v, .int .i64 (i : Int), .int .i64 (d : Int)] w (PostP w (.bad j c)) := by
  have q1 : (sgAt l i == [45]) = false := by rw [hs]; rfl
  have q2 : (sgAt l i == [33]) = true := by rw [hs]; rfl
  have h40' : ¬ (40 : Int) ≤ (d : Int) := by omega
  have C := Lib.hid C
  have HT0 := Lib.hid (fun o => tokU hT (S3.bal w o))
  have Q := Lib.hid (fun a0 a1 a2 a3 a4 => R5.new w a0 a1 a2 a3 a4)
  clear hT
  go_enter Tryz.func134, Tryz.ntmps134
  try simp only [List.append_eq, List.cons_append, List.nil_append]
  go_wp2_with fail
  refine (rsg_is (HT0.out _) q1 (by simp) (by omega)).mono ?_
  rintro E w1 ⟨rfl, hb⟩
  have HB1 := Lib.hid (hb)
  have HT1 := Lib.hid (tokU (HT0.out _) hb)
  clear hb
  go_wp2_with fail
  refine (rsg_is HT1.out q2 (by simp) (by omega)).mono ?_
  rintro E w2 ⟨rfl, hb⟩
  have HB2 := Lib.hid (after HB1.out hb)
  have HT2 := Lib.hid (tokU HT1.out hb)
  clear hb
  go_wp2_with fail
  rw [show (i : Int) + 1 = ((i + 1 : Nat) : Int) by omega, show (d : Int) + 1 = ((d + 1 : Nat) : Int) by omega]
  have C1 := C.out w2 HT2.out
  rw [hr] at C1
  refine C1.mono ?_
  clear C1
  rintro E w8 ⟨rfl, hb⟩
  have HB8 := Lib.hid (after HB2.out hb)
  have hq : (c == 0) = false := beq_eq_false_iff_ne.2 hc
  clear hb
  obtain ⟨z0, z1, z2, z3, z4, r0, r1, r2, r3, r4, y0, y1, y2, y3, y4⟩ := ((Q.out _ _ _ _ _).bel HB8.out).facts
  have hq1 := ((Q.out _ _ _ _ _).bel HB8.out).lt
  have S5 := fun o => put5_al ((Q.out _ _ _ _ _).bel HB8.out) (.int .i64 0) (.int .i64 0) (.int .i64 0) (.string ⟨#[]⟩) (.slice none 0 0) o
  have s0 := fun o => (S5 o).1
  have s1 := fun o => (S5 o).2.1
  have s2 := fun o => (S5 o).2.2.1
  have s3 := fun o => (S5 o).2.2.2.1
  have s4 := fun o => (S5 o).2.2.2.2
  have HF := Lib.hid (fun o => Below.alloc (parse_fin zE none 0 0 HB8.out (zE_in _ _)).2 (by rw [put5_size]; omega) o)
  clear S5
  go_wp2_with fail
  exact bodyPost_ret (v := .tuple #[S3.eV zE (.slice none 0 0), .int .i64 (j : Int), .int .i64 c]) (by simp [results, Tryz.results134, go_sem, zE, s0, s1, s2, s3, s4]) rfl ⟨rfl, HF.out _⟩
set_option maxRecDepth 100000 in
set_option maxHeartbeats 2000000 in
theorem rns_yes_not {w : World} {l : TL} {v : Value} (hT : TokL w w.heap.size v l) (_hll : l.length ≤ 1000000) (i : Nat) (_hi : i ≤ l.length) (d : Nat) (_hd : d ≤ 9223372036854775807) (hs : sgAt l i = [33]) (h40 : d < 40) (C : OPR l v (i + 1) (d + 1)) (e : Ex) (n : Nat) (hn1 : 1 ≤ n) (hnl : n ≤ l.length) (hr : opdR l (i + 1) (d + 1) = .ok e n) (hx : S3.exB ⟨4, 15, 0, [], [e]⟩ = true) :
    Calls Tryz.prog 134 #[v, .int .i64 (i : Int), .int .i64 (d : Int)] w (PostP w (.ok ⟨4, 15, 0, [], [e]⟩ n)) := by
  have q1 : (sgAt l i == [45]) = false := by rw [hs]; rfl
  have q2 : (sgAt l i == [33]) = true := by rw [hs]; rfl
  have h40' : ¬ (40 : Int) ≤ (d : Int) := by omega
  have C := Lib.hid C
  have HOO := Lib.hid (okE4 (op := 15) (e := e) (by decide))
  have HT0 := Lib.hid (fun o => tokU hT (S3.bal w o))
  have Q := Lib.hid (fun a0 a1 a2 a3 a4 => R5.new w a0 a1 a2 a3 a4)
  clear hT
  go_enter Tryz.func134, Tryz.ntmps134
  try simp only [List.append_eq, List.cons_append, List.nil_append]
  go_wp2_with fail
  refine (rsg_is (HT0.out _) q1 (by simp) (by omega)).mono ?_
  rintro E w1 ⟨rfl, hb⟩
  have HB1 := Lib.hid (hb)
  have HT1 := Lib.hid (tokU (HT0.out _) hb)
  clear hb
  go_wp2_with fail
  refine (rsg_is HT1.out q2 (by simp) (by omega)).mono ?_
  rintro E w2 ⟨rfl, hb⟩
  have HB2 := Lib.hid (after HB1.out hb)
  have HT2 := Lib.hid (tokU HT1.out hb)
  clear hb
  go_wp2_with fail
  rw [show (i : Int) + 1 = ((i + 1 : Nat) : Int) by omega, show (d : Int) + 1 = ((d + 1 : Nat) : Int) by omega]
  have C1 := C.out w2 HT2.out
  rw [hr] at C1
  refine C1.mono ?_
  clear C1
  rintro E w8 ⟨A, k, c, rfl, ho, hE, hb⟩
  have HB8 := Lib.hid (after HB2.out hb)
  have HT8 := Lib.hid (tokU HT2.out hb)
  have hL := HB2.out.size
  rw [S3.sz1] at hL
  have HE8 := Lib.hid (er_mono hE (show w.heap.size + 1 ≤ w2.heap.size by omega) (Nat.le_refl _))
  have HO8 := Lib.hid ho
  have hz8 := HB8.out.size
  rw [S3.sz1] at hz8
  clear hb hE ho
  go_wp2_with fail
  have HE9 := er_one HO8.out (n := w.heap.size + 1) (by rw [S3.sz1]; omega) (er_bel HE8.out (S3.bal w8 (S3.eO e (.slice A k c))))
  have HB9 := Lib.hid (after (after HB8.out (S3.bal w8 (S3.eO e (.slice A k c)))) (S3.bal (w8.alloc (S3.eO e (.slice A k c))) (S3.eO e (.slice A k c))))
  rw [show (w8.alloc (S3.eO e (.slice A k c))).heap.size = w8.heap.size + 1 from S3.sz1 _ _] at HE9
  have HE9 := Lib.hid HE9
  generalize (w8.alloc (S3.eO e (.slice A k c))).alloc (S3.eO e (.slice A k c)) = w9 at *
  refine (rmade_yes ⟨4, 15, 0, [], [e]⟩ HOO.out hx _ 1 1 (n : Int) (by omega) (by omega) w9 (er_in HE9.out (Nat.le_refl _))).mono ?_
  rintro E w10 ⟨rfl, hb⟩
  have HB10 := Lib.hid (after HB9.out hb)
  have HE10 := Lib.hid (er_bel HE9.out hb)
  clear hb
  obtain ⟨z0, z1, z2, z3, z4, r0, r1, r2, r3, r4, y0, y1, y2, y3, y4⟩ := ((Q.out _ _ _ _ _).bel HB10.out).facts
  have hq1 := ((Q.out _ _ _ _ _).bel HB10.out).lt
  have HF := Lib.hid (parse_fin ⟨4, 15, 0, [], [e]⟩ (some ⟨w8.heap.size + 1, 0, none⟩) 1 1 HB10.out HE10.out)
  go_wp2_with fail
  exact bodyPost_ret (v := .tuple #[S3.eV ⟨4, 15, 0, [], [e]⟩ (.slice (some ⟨w8.heap.size + 1, 0, none⟩) 1 1), .int .i64 (n : Int), .int .i64 0]) (by simp [results, Tryz.results134, go_sem, r0, r1, r2, r3, r4]) rfl ⟨(some ⟨w8.heap.size + 1, 0, none⟩), 1, 1, rfl, HOO.out, HF.out.1, HF.out.2⟩
set_option maxRecDepth 100000 in
set_option maxHeartbeats 2000000 in
theorem rns_made_not {w : World} {l : TL} {v : Value} (hT : TokL w w.heap.size v l) (_hll : l.length ≤ 1000000) (i : Nat) (_hi : i ≤ l.length) (d : Nat) (_hd : d ≤ 9223372036854775807) (hs : sgAt l i = [33]) (h40 : d < 40) (C : OPR l v (i + 1) (d + 1)) (e : Ex) (n : Nat) (hn1 : 1 ≤ n) (hnl : n ≤ l.length) (hr : opdR l (i + 1) (d + 1) = .ok e n) (hx : S3.exB ⟨4, 15, 0, [], [e]⟩ = false) :
    Calls Tryz.prog 134 #[v, .int .i64 (i : Int), .int .i64 (d : Int)] w (PostP w (.bad (n - 1) 8)) := by
  have q1 : (sgAt l i == [45]) = false := by rw [hs]; rfl
  have q2 : (sgAt l i == [33]) = true := by rw [hs]; rfl
  have h40' : ¬ (40 : Int) ≤ (d : Int) := by omega
  have C := Lib.hid C
  have HOO := Lib.hid (okE4 (op := 15) (e := e) (by decide))
  have HT0 := Lib.hid (fun o => tokU hT (S3.bal w o))
  have Q := Lib.hid (fun a0 a1 a2 a3 a4 => R5.new w a0 a1 a2 a3 a4)
  clear hT
  go_enter Tryz.func134, Tryz.ntmps134
  try simp only [List.append_eq, List.cons_append, List.nil_append]
  go_wp2_with fail
  refine (rsg_is (HT0.out _) q1 (by simp) (by omega)).mono ?_
  rintro E w1 ⟨rfl, hb⟩
  have HB1 := Lib.hid (hb)
  have HT1 := Lib.hid (tokU (HT0.out _) hb)
  clear hb
  go_wp2_with fail
  refine (rsg_is HT1.out q2 (by simp) (by omega)).mono ?_
  rintro E w2 ⟨rfl, hb⟩
  have HB2 := Lib.hid (after HB1.out hb)
  have HT2 := Lib.hid (tokU HT1.out hb)
  clear hb
  go_wp2_with fail
  rw [show (i : Int) + 1 = ((i + 1 : Nat) : Int) by omega, show (d : Int) + 1 = ((d + 1 : Nat) : Int) by omega]
  have C1 := C.out w2 HT2.out
  rw [hr] at C1
  refine C1.mono ?_
  clear C1
  rintro E w8 ⟨A, k, c, rfl, ho, hE, hb⟩
  have HB8 := Lib.hid (after HB2.out hb)
  have HT8 := Lib.hid (tokU HT2.out hb)
  have hL := HB2.out.size
  rw [S3.sz1] at hL
  have HE8 := Lib.hid (er_mono hE (show w.heap.size + 1 ≤ w2.heap.size by omega) (Nat.le_refl _))
  have HO8 := Lib.hid ho
  have hz8 := HB8.out.size
  rw [S3.sz1] at hz8
  clear hb hE ho
  go_wp2_with fail
  have HE9 := er_one HO8.out (n := w.heap.size + 1) (by rw [S3.sz1]; omega) (er_bel HE8.out (S3.bal w8 (S3.eO e (.slice A k c))))
  have HB9 := Lib.hid (after (after HB8.out (S3.bal w8 (S3.eO e (.slice A k c)))) (S3.bal (w8.alloc (S3.eO e (.slice A k c))) (S3.eO e (.slice A k c))))
  rw [show (w8.alloc (S3.eO e (.slice A k c))).heap.size = w8.heap.size + 1 from S3.sz1 _ _] at HE9
  have HE9 := Lib.hid HE9
  generalize (w8.alloc (S3.eO e (.slice A k c))).alloc (S3.eO e (.slice A k c)) = w9 at *
  refine (rmade_no ⟨4, 15, 0, [], [e]⟩ HOO.out hx _ 1 1 (n : Int) (by omega) (by omega) w9 (er_in HE9.out (Nat.le_refl _))).mono ?_
  rintro E w10 ⟨rfl, hb⟩
  have HB10 := Lib.hid (after HB9.out hb)
  have HE10 := Lib.hid (er_bel HE9.out hb)
  clear hb
  obtain ⟨z0, z1, z2, z3, z4, r0, r1, r2, r3, r4, y0, y1, y2, y3, y4⟩ := ((Q.out _ _ _ _ _).bel HB10.out).facts
  have hq1 := ((Q.out _ _ _ _ _).bel HB10.out).lt
  have HF := Lib.hid (parse_fin zE none 0 0 HB10.out (zE_in _ _)).2
  go_wp2_with fail
  exact bodyPost_ret (v := .tuple #[S3.eV zE (.slice none 0 0), .int .i64 ((n : Int) - 1), .int .i64 8]) (by simp [results, Tryz.results134, go_sem, zE, r0, r1, r2, r3, r4]) rfl ⟨by rw [show ((n - 1 : Nat) : Int) = (n : Int) - 1 by omega], HF.out⟩
set_option maxRecDepth 100000 in
set_option maxHeartbeats 2000000 in
theorem rns_bad_par {w : World} {l : TL} {v : Value} (hT : TokL w w.heap.size v l) (_hll : l.length ≤ 1000000) (i : Nat) (_hi : i ≤ l.length) (d : Nat) (_hd : d ≤ 9223372036854775807) (hs : sgAt l i = [40]) (h40 : d < 40) (C : BIR l v (i + 1) (d + 1) 1) (j : Nat) (c : Int) (hc : c ≠ 0) (hr : binR l (i + 1) (d + 1) 1 = .bad j c) :
    Calls Tryz.prog 134 #[v, .int .i64 (i : Int), .int .i64 (d : Int)] w (PostP w (.bad j c)) := by
  have q1 : (sgAt l i == [45]) = false := by rw [hs]; rfl
  have q2 : (sgAt l i == [33]) = false := by rw [hs]; rfl
  have q3 : (sgAt l i == [40]) = true := by rw [hs]; rfl
  have h40' : ¬ (40 : Int) ≤ (d : Int) := by omega
  have C := Lib.hid C
  have HT0 := Lib.hid (fun o => tokU hT (S3.bal w o))
  have Q := Lib.hid (fun a0 a1 a2 a3 a4 => R5.new w a0 a1 a2 a3 a4)
  clear hT
  go_enter Tryz.func134, Tryz.ntmps134
  try simp only [List.append_eq, List.cons_append, List.nil_append]
  go_wp2_with fail
  refine (rsg_is (HT0.out _) q1 (by simp) (by omega)).mono ?_
  rintro E w1 ⟨rfl, hb⟩
  have HB1 := Lib.hid (hb)
  have HT1 := Lib.hid (tokU (HT0.out _) hb)
  clear hb
  go_wp2_with fail
  refine (rsg_is HT1.out q2 (by simp) (by omega)).mono ?_
  rintro E w2 ⟨rfl, hb⟩
  have HB2 := Lib.hid (after HB1.out hb)
  have HT2 := Lib.hid (tokU HT1.out hb)
  clear hb
  go_wp2_with fail
  refine (rsg_is HT2.out q3 (by simp) (by omega)).mono ?_
  rintro E w3 ⟨rfl, hb⟩
  have HB3 := Lib.hid (after HB2.out hb)
  have HT3 := Lib.hid (tokU HT2.out hb)
  clear hb
  go_wp2_with fail
  rw [show (i : Int) + 1 = ((i + 1 : Nat) : Int) by omega, show (d : Int) + 1 = ((d + 1 : Nat) : Int) by omega]
  have C1 := C.out w3 HT3.out
  rw [hr] at C1
  refine C1.mono ?_
  clear C1
  rintro E w8 ⟨rfl, hb⟩
  have HB8 := Lib.hid (after HB3.out hb)
  have hq : (c == 0) = false := beq_eq_false_iff_ne.2 hc
  clear hb
  obtain ⟨z0, z1, z2, z3, z4, r0, r1, r2, r3, r4, y0, y1, y2, y3, y4⟩ := ((Q.out _ _ _ _ _).bel HB8.out).facts
  have hq1 := ((Q.out _ _ _ _ _).bel HB8.out).lt
  have S5 := fun o => put5_al ((Q.out _ _ _ _ _).bel HB8.out) (.int .i64 0) (.int .i64 0) (.int .i64 0) (.string ⟨#[]⟩) (.slice none 0 0) o
  have s0 := fun o => (S5 o).1
  have s1 := fun o => (S5 o).2.1
  have s2 := fun o => (S5 o).2.2.1
  have s3 := fun o => (S5 o).2.2.2.1
  have s4 := fun o => (S5 o).2.2.2.2
  have HF := Lib.hid (fun o => Below.alloc (parse_fin zE none 0 0 HB8.out (zE_in _ _)).2 (by rw [put5_size]; omega) o)
  clear S5
  go_wp2_with fail
  exact bodyPost_ret (v := .tuple #[S3.eV zE (.slice none 0 0), .int .i64 (j : Int), .int .i64 c]) (by simp [results, Tryz.results134, go_sem, zE, s0, s1, s2, s3, s4]) rfl ⟨rfl, HF.out _⟩
set_option maxRecDepth 100000 in
set_option maxHeartbeats 2000000 in
theorem rns_yes_par {w : World} {l : TL} {v : Value} (hT : TokL w w.heap.size v l) (_hll : l.length ≤ 1000000) (i : Nat) (_hi : i ≤ l.length) (d : Nat) (_hd : d ≤ 9223372036854775807) (hs : sgAt l i = [40]) (h40 : d < 40) (C : BIR l v (i + 1) (d + 1) 1) (e : Ex) (n : Nat) (hnl : n ≤ l.length) (hr : binR l (i + 1) (d + 1) 1 = .ok e n) (hsn : sgAt l n = [41]) :
    Calls Tryz.prog 134 #[v, .int .i64 (i : Int), .int .i64 (d : Int)] w (PostP w (.ok e (n + 1))) := by
  have q1 : (sgAt l i == [45]) = false := by rw [hs]; rfl
  have q2 : (sgAt l i == [33]) = false := by rw [hs]; rfl
  have q3 : (sgAt l i == [40]) = true := by rw [hs]; rfl
  have h40' : ¬ (40 : Int) ≤ (d : Int) := by omega
  have C := Lib.hid C
  have qn : (sgAt l n == [41]) = true := by rw [hsn]; rfl
  have HT0 := Lib.hid (fun o => tokU hT (S3.bal w o))
  have Q := Lib.hid (fun a0 a1 a2 a3 a4 => R5.new w a0 a1 a2 a3 a4)
  clear hT
  go_enter Tryz.func134, Tryz.ntmps134
  try simp only [List.append_eq, List.cons_append, List.nil_append]
  go_wp2_with fail
  refine (rsg_is (HT0.out _) q1 (by simp) (by omega)).mono ?_
  rintro E w1 ⟨rfl, hb⟩
  have HB1 := Lib.hid (hb)
  have HT1 := Lib.hid (tokU (HT0.out _) hb)
  clear hb
  go_wp2_with fail
  refine (rsg_is HT1.out q2 (by simp) (by omega)).mono ?_
  rintro E w2 ⟨rfl, hb⟩
  have HB2 := Lib.hid (after HB1.out hb)
  have HT2 := Lib.hid (tokU HT1.out hb)
  clear hb
  go_wp2_with fail
  refine (rsg_is HT2.out q3 (by simp) (by omega)).mono ?_
  rintro E w3 ⟨rfl, hb⟩
  have HB3 := Lib.hid (after HB2.out hb)
  have HT3 := Lib.hid (tokU HT2.out hb)
  clear hb
  go_wp2_with fail
  rw [show (i : Int) + 1 = ((i + 1 : Nat) : Int) by omega, show (d : Int) + 1 = ((d + 1 : Nat) : Int) by omega]
  have C1 := C.out w3 HT3.out
  rw [hr] at C1
  refine C1.mono ?_
  clear C1
  rintro E w8 ⟨A, k, c, rfl, ho, hE, hb⟩
  have HB8 := Lib.hid (after HB3.out hb)
  have HT8 := Lib.hid (tokU HT3.out hb)
  have hL := HB3.out.size
  rw [S3.sz1] at hL
  have HE8 := Lib.hid (er_mono hE (show w.heap.size + 1 ≤ w3.heap.size by omega) (Nat.le_refl _))
  have HO8 := Lib.hid ho
  have hz8 := HB8.out.size
  rw [S3.sz1] at hz8
  clear hb hE ho
  have X8 := Lib.hid (S3.EBox.new w8 e (.slice A k c))
  have HT8e := Lib.hid (tokU HT8.out (S3.bal w8 (S3.eO e (.slice A k c))))
  go_wp2_with fail
  refine (rsg_is HT8e.out qn (by simp) (by omega)).mono ?_
  rintro E w9 ⟨rfl, hb⟩
  have HB9 := Lib.hid (after (after HB8.out (S3.bal w8 (S3.eO e (.slice A k c)))) hb)
  obtain ⟨x0, x1, x2, x3, x4⟩ := X8.out.keep hb (by rw [S3.sz1]; omega)
  have HE9 := Lib.hid (er_bel (er_bel HE8.out (S3.bal w8 (S3.eO e (.slice A k c)))) hb)
  have hz9 : w8.heap.size < w9.heap.size := by have := hb.size; rw [S3.sz1] at this; omega
  clear hb
  obtain ⟨z0, z1, z2, z3, z4, r0, r1, r2, r3, r4, y0, y1, y2, y3, y4⟩ := ((Q.out _ _ _ _ _).bel HB9.out).facts
  have hq1 := ((Q.out _ _ _ _ _).bel HB9.out).lt
  have HF := Lib.hid (parse_fin e A k c HB9.out HE9.out)
  go_wp2_with fail
  exact bodyPost_ret (v := .tuple #[S3.eV e (.slice A k c), .int .i64 ((n : Int) + 1), .int .i64 0]) (by simp [results, Tryz.results134, go_sem, r0, r1, r2, r3, r4]) rfl ⟨A, k, c, by rw [show ((n + 1 : Nat) : Int) = (n : Int) + 1 by omega], HO8.out, HF.out.1, HF.out.2⟩
set_option maxRecDepth 100000 in
set_option maxHeartbeats 2000000 in
theorem rns_no_par {w : World} {l : TL} {v : Value} (hT : TokL w w.heap.size v l) (_hll : l.length ≤ 1000000) (i : Nat) (_hi : i ≤ l.length) (d : Nat) (_hd : d ≤ 9223372036854775807) (hs : sgAt l i = [40]) (h40 : d < 40) (C : BIR l v (i + 1) (d + 1) 1) (e : Ex) (n : Nat) (_hnl : n ≤ l.length) (hr : binR l (i + 1) (d + 1) 1 = .ok e n) (hsn : sgAt l n ≠ [41]) :
    Calls Tryz.prog 134 #[v, .int .i64 (i : Int), .int .i64 (d : Int)] w (PostP w (.bad n 7)) := by
  have q1 : (sgAt l i == [45]) = false := by rw [hs]; rfl
  have q2 : (sgAt l i == [33]) = false := by rw [hs]; rfl
  have q3 : (sgAt l i == [40]) = true := by rw [hs]; rfl
  have h40' : ¬ (40 : Int) ≤ (d : Int) := by omega
  have C := Lib.hid C
  have qn : (sgAt l n == [41]) = false := beq_eq_false_iff_ne.2 hsn
  have HT0 := Lib.hid (fun o => tokU hT (S3.bal w o))
  have Q := Lib.hid (fun a0 a1 a2 a3 a4 => R5.new w a0 a1 a2 a3 a4)
  clear hT
  go_enter Tryz.func134, Tryz.ntmps134
  try simp only [List.append_eq, List.cons_append, List.nil_append]
  go_wp2_with fail
  refine (rsg_is (HT0.out _) q1 (by simp) (by omega)).mono ?_
  rintro E w1 ⟨rfl, hb⟩
  have HB1 := Lib.hid (hb)
  have HT1 := Lib.hid (tokU (HT0.out _) hb)
  clear hb
  go_wp2_with fail
  refine (rsg_is HT1.out q2 (by simp) (by omega)).mono ?_
  rintro E w2 ⟨rfl, hb⟩
  have HB2 := Lib.hid (after HB1.out hb)
  have HT2 := Lib.hid (tokU HT1.out hb)
  clear hb
  go_wp2_with fail
  refine (rsg_is HT2.out q3 (by simp) (by omega)).mono ?_
  rintro E w3 ⟨rfl, hb⟩
  have HB3 := Lib.hid (after HB2.out hb)
  have HT3 := Lib.hid (tokU HT2.out hb)
  clear hb
  go_wp2_with fail
  rw [show (i : Int) + 1 = ((i + 1 : Nat) : Int) by omega, show (d : Int) + 1 = ((d + 1 : Nat) : Int) by omega]
  have C1 := C.out w3 HT3.out
  rw [hr] at C1
  refine C1.mono ?_
  clear C1
  rintro E w8 ⟨A, k, c, rfl, ho, hE, hb⟩
  have HB8 := Lib.hid (after HB3.out hb)
  have HT8 := Lib.hid (tokU HT3.out hb)
  have hL := HB3.out.size
  rw [S3.sz1] at hL
  have HE8 := Lib.hid (er_mono hE (show w.heap.size + 1 ≤ w3.heap.size by omega) (Nat.le_refl _))
  have HO8 := Lib.hid ho
  have hz8 := HB8.out.size
  rw [S3.sz1] at hz8
  clear hb hE ho
  have X8 := Lib.hid (S3.EBox.new w8 e (.slice A k c))
  have HT8e := Lib.hid (tokU HT8.out (S3.bal w8 (S3.eO e (.slice A k c))))
  go_wp2_with fail
  refine (rsg_is HT8e.out qn (by simp) (by omega)).mono ?_
  rintro E w9 ⟨rfl, hb⟩
  have HB9 := Lib.hid (after (after HB8.out (S3.bal w8 (S3.eO e (.slice A k c)))) hb)
  obtain ⟨x0, x1, x2, x3, x4⟩ := X8.out.keep hb (by rw [S3.sz1]; omega)
  have HE9 := Lib.hid (er_bel (er_bel HE8.out (S3.bal w8 (S3.eO e (.slice A k c)))) hb)
  have hz9 : w8.heap.size < w9.heap.size := by have := hb.size; rw [S3.sz1] at this; omega
  clear hb
  obtain ⟨z0, z1, z2, z3, z4, r0, r1, r2, r3, r4, y0, y1, y2, y3, y4⟩ := ((Q.out _ _ _ _ _).bel HB9.out).facts
  have hq1 := ((Q.out _ _ _ _ _).bel HB9.out).lt
  have HF := Lib.hid (parse_fin zE none 0 0 HB9.out (zE_in _ _)).2
  go_wp2_with fail
  exact bodyPost_ret (v := .tuple #[S3.eV zE (.slice none 0 0), .int .i64 (n : Int), .int .i64 7]) (by simp [results, Tryz.results134, go_sem, zE, r0, r1, r2, r3, r4]) rfl ⟨rfl, HF.out⟩
end Go.Proofs.YtlhifbckmknijaaGreatDoor.E5
