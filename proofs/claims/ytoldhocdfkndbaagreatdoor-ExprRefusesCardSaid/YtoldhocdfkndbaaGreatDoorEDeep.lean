/-
  What ExprDeep asks of texts, by evaluation. No program is named here.
  ExprDeep, its examples' contract given. Written by gen6_deep.py.
  The law's same: contract. Lists that are sliced. What stands nowhere in the table of operators.
-/
import Derived.Test.YtoldhocdfkndbaaGreatDoorEWf
import Derived.Test.YtoldhocdfkndbaaGreatDoorEWk
import Derived.Test.YtoldhocdfkndbaaGreatDoorSEq
namespace Go.Proofs.YtoldhocdfkndbaaGreatDoor.E5
open Go Go.Proofs.YtoldhocdfkndbaaGreatDoor

def repB (s : Bytes) : Nat → Bytes
  | 0 => []
  | n + 1 => s ++ repB s n
def parT5 (n : Nat) : Bytes := repB [40] n ++ [120] ++ repB [41] n
def chainT (m : Nat) : Bytes := [120] ++ repB [32, 43, 32, 120] m
def minusT (m : Nat) : Bytes := repB [45, 32] m ++ [120]
def brackT (m : Nat) : Bytes := repB [120, 91] m ++ [120] ++ repB [93] m
/-- What is read at depth g: up to the index a, or too deep at the index b. -/
def readsB (s : Bytes) (g : Nat) (deep : Bool) (a b d : Nat) : Bool := match parseR (tlS s) 0 g with
  | .ok e n => !deep && n == a && (d == 0 || S3.dep 20 e == d)
  | .bad i c => deep && i == b && c == 8
theorem df_par : ∀ g ∈ List.range 30, ∀ k ∈ List.range 4, readsB (parT5 (38 - g + k)) g (k == 3) (2 * (38 - g + k) + 1) (40 - g) 0 = true := by decide +kernel
theorem df_chain : ∀ k ∈ List.range 4, readsB (chainT (17 + k)) 0 (k == 3) (2 * (17 + k) + 1) 40 (18 + k) = true := by decide +kernel
theorem df_minus : ∀ k ∈ List.range 4, readsB (minusT (17 + k)) 0 (k == 3) (18 + k) (17 + k) (18 + k) = true := by decide +kernel
theorem df_brack : ∀ k ∈ List.range 4, readsB (brackT (17 + k)) 0 (k == 3) (3 * (17 + k) + 1) (2 * (17 + k) + 20) (18 + k) = true := by decide +kernel
end Go.Proofs.YtoldhocdfkndbaaGreatDoor.E5

namespace Go.Proofs.YtoldhocdfkndbaaGreatDoor.E5
open Go Go.RowKit Go.Proofs.YtoldhocdfkndbaaGreatDoor

theorem repB_is (s : Bytes) : ∀ n, Lib.repeatL s n = repB s n
  | 0 => rfl
  | n + 1 => by rw [Lib.repeatL, repB, repB_is s n]
theorem repB_len (s : Bytes) (n : Nat) : (repB s n).length = n * s.length := by rw [← repB_is, Lib.repeatL_length]
theorem repB_size (s : Bytes) (n : Nat) : (B (repB s n)).size = n * s.length := by show (repB s n).toArray.size = _; simp [repB_len]
theorem rep_any (s : Bytes) (n : Nat) (w : World) (hn : n ≤ 1000) (hs : s.length ≤ 10) : Calls Tryz.prog 23 #[.string (B s), .int .i64 (n : Int)] w fun e w' => e = .returned (.string (B (repB s n))) ∧ Below w.heap.size w w' := by
  have h := Tryz.strings_Repeat (B s) n w (by omega) (by
    have h1 : (B s).size = s.length := by show s.toArray.size = _; simp
    rw [h1]
    have := Nat.mul_le_mul hs hn
    omega)
  rw [show (⟨(Lib.repeatL (B s).data.toList n).toArray⟩ : ByteArray) = B (repB s n) by rw [repB_is]] at h
  exact h
theorem readsB_ok {s : Bytes} {g a b d : Nat} (h : readsB s g false a b d = true) : ∃ e, parseR (tlS s) 0 g = .ok e a ∧ (d = 0 ∨ S3.dep 20 e = d) := by
  unfold readsB at h
  cases hr : parseR (tlS s) 0 g with
  | bad i c => rw [hr] at h; simp at h
  | ok e n =>
    rw [hr] at h
    simp at h
    obtain ⟨rfl, h2⟩ := h
    exact ⟨e, rfl, h2⟩
theorem readsB_deep {s : Bytes} {g a b d : Nat} (h : readsB s g true a b d = true) : parseR (tlS s) 0 g = .bad b 8 := by
  unfold readsB at h
  cases hr : parseR (tlS s) 0 g with
  | ok e n => rw [hr] at h; simp at h
  | bad i c =>
    rw [hr] at h
    simp at h
    obtain ⟨rfl, rfl⟩ := h
    rfl
set_option maxRecDepth 100000 in
set_option maxHeartbeats 8000000 in
theorem deep_ok (hWk : WorksR) (x y : Int) (r g N M : Nat) (hr : x % 4 = (r : Int)) (hg : y % 30 = (g : Int)) (hr2 : r ≤ 2) (_hg2 : g ≤ 29) (hN : N = 38 - g + r) (hM : M = 17 + r) (hx : 0 ≤ x ∧ x ≤ 255) (hy : 0 ≤ y ∧ y ≤ 255) (w : World) (hG : GlobA w) :
    Calls Tryz.prog 7 #[.int .u8 x, .int .u8 y] w fun e w' => e = .returned (.bool true) ∧ Below w.heap.size w w' := by
  have HWk := Lib.hid hWk
  have HG := Lib.hid hG
  have fp := df_par g (List.mem_range.2 (by omega)) r (List.mem_range.2 (by omega))
  rw [← hN] at fp
  rw [show (r == 3) = false from by simp; omega] at fp
  have fc := df_chain r (List.mem_range.2 (by omega))
  rw [← hM] at fc
  rw [show (r == 3) = false from by simp; omega] at fc
  have fm := df_minus r (List.mem_range.2 (by omega))
  rw [← hM] at fm
  rw [show 18 + r = M + 1 by omega] at fm
  rw [show (r == 3) = false from by simp; omega] at fm
  have fb := df_brack r (List.mem_range.2 (by omega))
  rw [← hM] at fb
  rw [show (r == 3) = false from by simp; omega] at fb
  obtain ⟨ep, Pp, Dp⟩ := readsB_ok fp
  have HPp := Lib.hid Pp
  obtain ⟨ec, Pc, Dc⟩ := readsB_ok fc
  have HPc := Lib.hid Pc
  have HDc := Lib.hid (show S3.dep 20 ec = M + 1 by rcases Dc with h | h <;> omega)
  obtain ⟨em, Pm, Dm⟩ := readsB_ok fm
  have HPm := Lib.hid Pm
  have HDm := Lib.hid (show S3.dep 20 em = M + 1 by rcases Dm with h | h <;> omega)
  obtain ⟨eb, Pb, Db⟩ := readsB_ok fb
  have HPb := Lib.hid Pb
  have HDb := Lib.hid (show S3.dep 20 eb = M + 1 by rcases Db with h | h <;> omega)
  clear fp fc fm fb Pp Pc Pm Pb Dp Dc Dm Db hG hWk
  have z40 : (B (repB [40] N)).size = N := by rw [repB_size]; simp
  have z41 : (B (repB [41] N)).size = N := by rw [repB_size]; simp
  have z32 : (B (repB [32, 43, 32, 120] M)).size = M * 4 := by rw [repB_size]; rfl
  have z45 : (B (repB [45, 32] M)).size = M * 2 := by rw [repB_size]; rfl
  have z12 : (B (repB [120, 91] M)).size = M * 2 := by rw [repB_size]; rfl
  have z93 : (B (repB [93] M)).size = M := by rw [repB_size]; simp
  have hNb : N ≤ 41 := by omega
  have hMb : M ≤ 20 := by omega
  have HNN := Lib.hid hN
  have HMM := Lib.hid hM
  clear hN hM
  have hxn : ¬ (2 : Int) < x % 4 := by omega
  go_enter Tryz.func7, Tryz.ntmps7
  go_wp2_with fail
  rw [show (40 : Int) - (g : Int) + ((r : Int) - 2) = (N : Int) by have := HNN.out; omega]
  refine (rep_any [40] N _ (by omega) (by decide)).mono ?_
  rintro E w1 ⟨rfl, hb⟩
  have HB := Lib.hid (hb)
  clear hb
  go_wp2_with fail
  refine (rep_any [41] N _ (by omega) (by decide)).mono ?_
  rintro E w2 ⟨rfl, hb⟩
  have HB := Lib.hid (after HB.out hb)
  clear hb
  go_wp2_with fail
  rw [show (B (repB [40] N) ++ ⟨#[120]⟩ ++ B (repB [41] N) : ByteArray) = B (parT5 N) from by rw [show (⟨#[120]⟩ : ByteArray) = B [120] from rfl, N2.B_append, N2.B_append]; rfl]
  refine (scan_fn (parT5 N) (by simp only [parT5, List.length_append, repB_len]; simp; omega) _ (HG.out.up HB.out).l).mono ?_
  rintro E w3 ⟨Ap, cp, rfl, hT, hb⟩
  have HB := Lib.hid (after HB.out hb)
  have HT := Lib.hid hT
  clear hb hT
  go_wp2_with fail
  have hP := parse_calls (i := 0) (d := g) HT.out (HG.out.up HB.out).e (Nat.zero_le _) (by omega)
  rw [HPp.out] at hP
  refine hP.mono ?_
  clear hP HT
  rintro E w4 ⟨Bp, kp, mp, rfl, ho, hE, hb⟩
  have HO := Lib.hid ho
  have HE := Lib.hid (er_in hE (Nat.le_refl _))
  have hlp := ho
  have HB0 := Lib.hid (after HB.out hb)
  have HB := Lib.hid (fun o => HB0.out.alloc HB0.out.size o)
  clear hb hE ho hlp
  go_wp2_with fail
  clear HE HO HB0
  have HB := Lib.hid (HB.out (S3.eO ep (.slice Bp kp mp)))
  generalize w4.alloc (S3.eO ep (.slice Bp kp mp)) = v4 at *
  rw [show (19 : Int) + ((r : Int) - 2) = (M : Int) by have := HMM.out; omega]
  refine (rep_any [32, 43, 32, 120] M _ (by omega) (by decide)).mono ?_
  rintro E w5 ⟨rfl, hb⟩
  have HB := Lib.hid (after HB.out hb)
  clear hb
  go_wp2_with fail
  rw [show (⟨#[120]⟩ ++ B (repB [32, 43, 32, 120] M) : ByteArray) = B (chainT M) from by rw [show (⟨#[120]⟩ : ByteArray) = B [120] from rfl, N2.B_append]; rfl]
  refine (scan_fn (chainT M) (by simp only [chainT, List.length_append, repB_len]; simp; omega) _ (HG.out.up HB.out).l).mono ?_
  rintro E w6 ⟨Ac, cc, rfl, hT, hb⟩
  have HB := Lib.hid (after HB.out hb)
  have HT := Lib.hid hT
  clear hb hT
  go_wp2_with fail
  have hP := parse_calls (i := 0) (d := 0) HT.out (HG.out.up HB.out).e (Nat.zero_le _) (by omega)
  rw [HPc.out] at hP
  refine hP.mono ?_
  clear hP HT
  rintro E w7 ⟨Bc, kc, mc, rfl, ho, hE, hb⟩
  have HO := Lib.hid ho
  have HE := Lib.hid (er_in hE (Nat.le_refl _))
  have hlc := ho
  have HB0 := Lib.hid (after HB.out hb)
  have HB := Lib.hid (fun o => HB0.out.alloc HB0.out.size o)
  clear hb hE ho hlc
  have DC := fun W (hb : Below w7.heap.size w7 W) => S3.depth_calls ec HO.out (.slice Bc kc mc) W (HE.out.up hb) ((HG.out.up HB0.out).up hb).e.s
  rw [HDc.out] at DC
  have DC := Lib.hid (fun o => DC (w7.alloc o) (S3.bal w7 o))
  go_wp2_with fail
  refine (DC.out _).mono ?_
  rintro E w8 ⟨rfl, hb⟩
  have HB := Lib.hid (after (HB.out _) hb)
  clear hb DC HE HO HB0
  go_wp2_with fail
  refine (rep_any [45, 32] M _ (by omega) (by decide)).mono ?_
  rintro E w9 ⟨rfl, hb⟩
  have HB := Lib.hid (after HB.out hb)
  clear hb
  go_wp2_with fail
  rw [show (B (repB [45, 32] M) ++ ⟨#[120]⟩ : ByteArray) = B (minusT M) from by rw [show (⟨#[120]⟩ : ByteArray) = B [120] from rfl, N2.B_append]; rfl]
  refine (scan_fn (minusT M) (by simp only [minusT, List.length_append, repB_len]; simp; omega) _ (HG.out.up HB.out).l).mono ?_
  rintro E w10 ⟨Am, cm, rfl, hT, hb⟩
  have HB := Lib.hid (after HB.out hb)
  have HT := Lib.hid hT
  clear hb hT
  go_wp2_with fail
  have hP := parse_calls (i := 0) (d := 0) HT.out (HG.out.up HB.out).e (Nat.zero_le _) (by omega)
  rw [HPm.out] at hP
  refine hP.mono ?_
  clear hP HT
  rintro E w11 ⟨Bm, km, mm, rfl, ho, hE, hb⟩
  have HO := Lib.hid ho
  have HE := Lib.hid (er_in hE (Nat.le_refl _))
  have hlm := ho
  have HB0 := Lib.hid (after HB.out hb)
  have HB := Lib.hid (fun o => HB0.out.alloc HB0.out.size o)
  clear hb hE ho hlm
  have DC := fun W (hb : Below w11.heap.size w11 W) => S3.depth_calls em HO.out (.slice Bm km mm) W (HE.out.up hb) ((HG.out.up HB0.out).up hb).e.s
  rw [HDm.out] at DC
  have DC := Lib.hid (fun o => DC (w11.alloc o) (S3.bal w11 o))
  go_wp2_with fail
  refine (DC.out _).mono ?_
  rintro E w12 ⟨rfl, hb⟩
  have HB := Lib.hid (after (HB.out _) hb)
  clear hb DC HE HO HB0
  go_wp2_with fail
  refine (rep_any [120, 91] M _ (by omega) (by decide)).mono ?_
  rintro E w13 ⟨rfl, hb⟩
  have HB := Lib.hid (after HB.out hb)
  clear hb
  go_wp2_with fail
  refine (rep_any [93] M _ (by omega) (by decide)).mono ?_
  rintro E w14 ⟨rfl, hb⟩
  have HB := Lib.hid (after HB.out hb)
  clear hb
  go_wp2_with fail
  rw [show (B (repB [120, 91] M) ++ ⟨#[120]⟩ ++ B (repB [93] M) : ByteArray) = B (brackT M) from by rw [show (⟨#[120]⟩ : ByteArray) = B [120] from rfl, N2.B_append, N2.B_append]; rfl]
  refine (scan_fn (brackT M) (by simp only [brackT, List.length_append, repB_len]; simp; omega) _ (HG.out.up HB.out).l).mono ?_
  rintro E w15 ⟨Ab, cb, rfl, hT, hb⟩
  have HB := Lib.hid (after HB.out hb)
  have HT := Lib.hid hT
  clear hb hT
  go_wp2_with fail
  have hP := parse_calls (i := 0) (d := 0) HT.out (HG.out.up HB.out).e (Nat.zero_le _) (by omega)
  rw [HPb.out] at hP
  refine hP.mono ?_
  clear hP HT
  rintro E w16 ⟨Bb, kb, mb, rfl, ho, hE, hb⟩
  have HO := Lib.hid ho
  have HE := Lib.hid (er_in hE (Nat.le_refl _))
  have hlb := ho
  have HB0 := Lib.hid (after HB.out hb)
  have HB := Lib.hid (fun o => HB0.out.alloc HB0.out.size o)
  clear hb hE ho hlb
  have DC := fun W (hb : Below w16.heap.size w16 W) => S3.depth_calls eb HO.out (.slice Bb kb mb) W (HE.out.up hb) ((HG.out.up HB0.out).up hb).e.s
  rw [HDb.out] at DC
  have DC := Lib.hid (fun o => DC (w16.alloc o) (S3.bal w16 o))
  go_wp2_with fail
  refine (DC.out _).mono ?_
  rintro E w17 ⟨rfl, hb⟩
  have HB := Lib.hid (after (HB.out _) hb)
  clear hb DC HE HO HB0
  go_wp2_with fail
  refine (HWk.out _ (HG.out.up HB.out)).mono ?_
  rintro E wz ⟨rfl, hb⟩
  have HB := Lib.hid (after HB.out hb)
  clear hb
  go_wp2_with fail
  go_ret
  exact ⟨rfl, HB.out⟩
set_option maxRecDepth 100000 in
set_option maxHeartbeats 8000000 in
theorem deep_deep (hWk : WorksR) (x y : Int) (r g N M : Nat) (hr : x % 4 = (r : Int)) (hg : y % 30 = (g : Int)) (hr2 : r = 3) (_hg2 : g ≤ 29) (hN : N = 38 - g + r) (hM : M = 17 + r) (hx : 0 ≤ x ∧ x ≤ 255) (hy : 0 ≤ y ∧ y ≤ 255) (w : World) (hG : GlobA w) :
    Calls Tryz.prog 7 #[.int .u8 x, .int .u8 y] w fun e w' => e = .returned (.bool true) ∧ Below w.heap.size w w' := by
  have HWk := Lib.hid hWk
  have HG := Lib.hid hG
  have fp := df_par g (List.mem_range.2 (by omega)) r (List.mem_range.2 (by omega))
  rw [← hN] at fp
  rw [show (r == 3) = true from by simp; omega] at fp
  have fc := df_chain r (List.mem_range.2 (by omega))
  rw [← hM] at fc
  rw [show (r == 3) = true from by simp; omega] at fc
  have fm := df_minus r (List.mem_range.2 (by omega))
  rw [← hM] at fm
  rw [show 18 + r = M + 1 by omega] at fm
  rw [show (r == 3) = true from by simp; omega] at fm
  have fb := df_brack r (List.mem_range.2 (by omega))
  rw [← hM] at fb
  rw [show (r == 3) = true from by simp; omega] at fb
  obtain ⟨J, hJ, hJ2⟩ : ∃ J : Nat, J = 40 - g ∧ (J : Int) = 40 - (g : Int) := ⟨40 - g, rfl, by omega⟩
  rw [← hJ] at fp
  have HPp := Lib.hid (readsB_deep fp)
  have HPc := Lib.hid (readsB_deep fc)
  have HPm := Lib.hid (readsB_deep fm)
  have HPb := Lib.hid (readsB_deep fb)
  clear fp fc fm fb hG hWk hJ
  have z40 : (B (repB [40] N)).size = N := by rw [repB_size]; simp
  have z41 : (B (repB [41] N)).size = N := by rw [repB_size]; simp
  have z32 : (B (repB [32, 43, 32, 120] M)).size = M * 4 := by rw [repB_size]; rfl
  have z45 : (B (repB [45, 32] M)).size = M * 2 := by rw [repB_size]; rfl
  have z12 : (B (repB [120, 91] M)).size = M * 2 := by rw [repB_size]; rfl
  have z93 : (B (repB [93] M)).size = M := by rw [repB_size]; simp
  have hNb : N ≤ 41 := by omega
  have hMb : M ≤ 20 := by omega
  have HNN := Lib.hid hN
  have HMM := Lib.hid hM
  clear hN hM
  have hxn : (2 : Int) < x % 4 := by omega
  have hr3 : r ≤ 3 := by omega
  clear hr2
  go_enter Tryz.func7, Tryz.ntmps7
  go_wp2_with fail
  rw [show (40 : Int) - (g : Int) + ((r : Int) - 2) = (N : Int) by have := HNN.out; omega]
  refine (rep_any [40] N _ (by omega) (by decide)).mono ?_
  rintro E w1 ⟨rfl, hb⟩
  have HB := Lib.hid (hb)
  clear hb
  go_wp2_with fail
  refine (rep_any [41] N _ (by omega) (by decide)).mono ?_
  rintro E w2 ⟨rfl, hb⟩
  have HB := Lib.hid (after HB.out hb)
  clear hb
  go_wp2_with fail
  rw [show (B (repB [40] N) ++ ⟨#[120]⟩ ++ B (repB [41] N) : ByteArray) = B (parT5 N) from by rw [show (⟨#[120]⟩ : ByteArray) = B [120] from rfl, N2.B_append, N2.B_append]; rfl]
  refine (scan_fn (parT5 N) (by simp only [parT5, List.length_append, repB_len]; simp; omega) _ (HG.out.up HB.out).l).mono ?_
  rintro E w3 ⟨Ap, cp, rfl, hT, hb⟩
  have HB := Lib.hid (after HB.out hb)
  have HT := Lib.hid hT
  clear hb hT
  go_wp2_with fail
  have hP := parse_calls (i := 0) (d := g) HT.out (HG.out.up HB.out).e (Nat.zero_le _) (by omega)
  rw [HPp.out] at hP
  refine hP.mono ?_
  clear hP HT
  rintro E w4 ⟨rfl, hb⟩
  have HB0 := Lib.hid (after HB.out hb)
  have HB := Lib.hid (fun o => HB0.out.alloc HB0.out.size o)
  clear hb HB0
  go_wp2_with fail
  have HB := Lib.hid (HB.out (S3.eO zE (.slice none 0 0)))
  generalize w4.alloc (S3.eO zE (.slice none 0 0)) = v4 at *
  rw [show (19 : Int) + ((r : Int) - 2) = (M : Int) by have := HMM.out; omega]
  refine (rep_any [32, 43, 32, 120] M _ (by omega) (by decide)).mono ?_
  rintro E w5 ⟨rfl, hb⟩
  have HB := Lib.hid (after HB.out hb)
  clear hb
  go_wp2_with fail
  rw [show (⟨#[120]⟩ ++ B (repB [32, 43, 32, 120] M) : ByteArray) = B (chainT M) from by rw [show (⟨#[120]⟩ : ByteArray) = B [120] from rfl, N2.B_append]; rfl]
  refine (scan_fn (chainT M) (by simp only [chainT, List.length_append, repB_len]; simp; omega) _ (HG.out.up HB.out).l).mono ?_
  rintro E w6 ⟨Ac, cc, rfl, hT, hb⟩
  have HB := Lib.hid (after HB.out hb)
  have HT := Lib.hid hT
  clear hb hT
  go_wp2_with fail
  have hP := parse_calls (i := 0) (d := 0) HT.out (HG.out.up HB.out).e (Nat.zero_le _) (by omega)
  rw [HPc.out] at hP
  refine hP.mono ?_
  clear hP HT
  rintro E w7 ⟨rfl, hb⟩
  have HB0 := Lib.hid (after HB.out hb)
  have HB := Lib.hid (fun o => HB0.out.alloc HB0.out.size o)
  clear hb HB0
  go_wp2_with fail
  have HB := Lib.hid (HB.out (S3.eO zE (.slice none 0 0)))
  generalize w7.alloc (S3.eO zE (.slice none 0 0)) = v7 at *
  refine (rep_any [45, 32] M _ (by omega) (by decide)).mono ?_
  rintro E w8 ⟨rfl, hb⟩
  have HB := Lib.hid (after HB.out hb)
  clear hb
  go_wp2_with fail
  rw [show (B (repB [45, 32] M) ++ ⟨#[120]⟩ : ByteArray) = B (minusT M) from by rw [show (⟨#[120]⟩ : ByteArray) = B [120] from rfl, N2.B_append]; rfl]
  refine (scan_fn (minusT M) (by simp only [minusT, List.length_append, repB_len]; simp; omega) _ (HG.out.up HB.out).l).mono ?_
  rintro E w9 ⟨Am, cm, rfl, hT, hb⟩
  have HB := Lib.hid (after HB.out hb)
  have HT := Lib.hid hT
  clear hb hT
  go_wp2_with fail
  have hP := parse_calls (i := 0) (d := 0) HT.out (HG.out.up HB.out).e (Nat.zero_le _) (by omega)
  rw [HPm.out] at hP
  refine hP.mono ?_
  clear hP HT
  rintro E w10 ⟨rfl, hb⟩
  have HB0 := Lib.hid (after HB.out hb)
  have HB := Lib.hid (fun o => HB0.out.alloc HB0.out.size o)
  clear hb HB0
  go_wp2_with fail
  have HB := Lib.hid (HB.out (S3.eO zE (.slice none 0 0)))
  generalize w10.alloc (S3.eO zE (.slice none 0 0)) = v10 at *
  refine (rep_any [120, 91] M _ (by omega) (by decide)).mono ?_
  rintro E w11 ⟨rfl, hb⟩
  have HB := Lib.hid (after HB.out hb)
  clear hb
  go_wp2_with fail
  refine (rep_any [93] M _ (by omega) (by decide)).mono ?_
  rintro E w12 ⟨rfl, hb⟩
  have HB := Lib.hid (after HB.out hb)
  clear hb
  go_wp2_with fail
  rw [show (B (repB [120, 91] M) ++ ⟨#[120]⟩ ++ B (repB [93] M) : ByteArray) = B (brackT M) from by rw [show (⟨#[120]⟩ : ByteArray) = B [120] from rfl, N2.B_append, N2.B_append]; rfl]
  refine (scan_fn (brackT M) (by simp only [brackT, List.length_append, repB_len]; simp; omega) _ (HG.out.up HB.out).l).mono ?_
  rintro E w13 ⟨Ab, cb, rfl, hT, hb⟩
  have HB := Lib.hid (after HB.out hb)
  have HT := Lib.hid hT
  clear hb hT
  go_wp2_with fail
  have hP := parse_calls (i := 0) (d := 0) HT.out (HG.out.up HB.out).e (Nat.zero_le _) (by omega)
  rw [HPb.out] at hP
  refine hP.mono ?_
  clear hP HT
  rintro E w14 ⟨rfl, hb⟩
  have HB0 := Lib.hid (after HB.out hb)
  have HB := Lib.hid (fun o => HB0.out.alloc HB0.out.size o)
  clear hb HB0
  go_wp2_with fail
  have HB := Lib.hid (HB.out (S3.eO zE (.slice none 0 0)))
  generalize w14.alloc (S3.eO zE (.slice none 0 0)) = v14 at *
  refine (HWk.out _ (HG.out.up HB.out)).mono ?_
  rintro E wz ⟨rfl, hb⟩
  have HB := Lib.hid (after HB.out hb)
  clear hb
  go_wp2_with fail
  go_ret
  exact ⟨rfl, HB.out⟩
theorem deep_law (hWk : WorksR) (x y : Int) (hx : 0 ≤ x ∧ x ≤ 255) (hy : 0 ≤ y ∧ y ≤ 255) (w : World) (hG : GlobA w) :
    Calls Tryz.prog 7 #[.int .u8 x, .int .u8 y] w fun e w' => e = .returned (.bool true) ∧ Below w.heap.size w w' := by
  obtain ⟨r, hr⟩ := Int.eq_ofNat_of_zero_le (show 0 ≤ x % 4 by omega)
  obtain ⟨g, hg⟩ := Int.eq_ofNat_of_zero_le (show 0 ≤ y % 30 by omega)
  rcases Nat.lt_or_ge r 3 with h | h
  · exact deep_ok hWk x y r g _ _ hr hg (by omega) (by omega) rfl rfl hx hy w hG
  · exact deep_deep hWk x y r g _ _ hr hg (by omega) (by omega) rfl rfl hx hy w hG
end Go.Proofs.YtoldhocdfkndbaaGreatDoor.E5

namespace Go.Proofs.YtoldhocdfkndbaaGreatDoor.E5
open Go Go.RowKit Go.Proofs.YtoldhocdfkndbaaGreatDoor

theorem TokL.take {W : World} {M k c : Nat} {A : Option Addr} {l : TL} (h : TokL W M (.slice A l.length c) l) (hk : k ≤ l.length) : TokL W M (.slice A k c) (l.take k) := by
  obtain ⟨A', c', h1, h2, h3⟩ := h
  obtain ⟨rfl, _, rfl⟩ := Value.slice.inj h1
  have hl : (l.take k).length = k := by simp; omega
  refine ⟨_, _, by rw [hl], by omega, fun i t hi => ?_⟩
  rw [List.getElem?_take] at hi
  split at hi
  · exact h3 i t hi
  · cases hi
theorem signB_none {op : Int} (h : op ≤ 0 ∨ 16 ≤ op) : signB op = [] := by
  unfold signB
  rw [if_neg (by omega), if_neg (by omega)]
  have : opsL.find? (fun r => r.2.1 == op) = none := by
    rw [List.find?_eq_none]
    intro r hr
    simp only [opsL, List.mem_cons, List.not_mem_nil, or_false] at hr
    rcases hr with rfl | rfl | rfl | rfl | rfl | rfl | rfl | rfl | rfl | rfl | rfl | rfl | rfl <;> simp <;> omega
  rw [this]
theorem parseR_end (l : TL) (d : Nat) : parseR l l.length d = .bad l.length 7 := by
  have h0 : tkAt l l.length = (0, []) := by unfold tkAt; rw [List.getElem?_eq_none (Nat.le_refl _)]; rfl
  have hs : sgAt l l.length = [] := by unfold sgAt; rw [h0]; rfl
  rw [parseR_is, binR_eq l _ d 1 (by omega) (Nat.le_refl _), opdR_eq l _ d (Nat.le_refl _), h0, hs]
  rfl
theorem listR_end (l : TL) (d : Nat) : listR l l.length d = .bad l.length 7 := by
  have h0 : tkAt l l.length = (0, []) := by unfold tkAt; rw [List.getElem?_eq_none (Nat.le_refl _)]; rfl
  have hs : sgAt l l.length = [] := by unfold sgAt; rw [h0]; rfl
  unfold listR
  rw [hs, if_neg (by decide)]

/-! ### same -/
theorem zero_closure (w : World) : Calls Tryz.prog 75 #[S3.eV zE (.slice none 0 0)] w fun e w' => e = .returned (.bool true) ∧ Below w.heap.size w w' := by
  go_enter Tryz.func75, Tryz.ntmps75
  go_wp2_with fail
  go_ret
  exact ⟨rfl, S3.bal w _⟩
set_option maxHeartbeats 1000000 in
theorem same_zero (w : World) : Calls Tryz.prog 34 #[S3.eV zE (.slice none 0 0), S3.eV zE (.slice none 0 0)] w fun e w' => e = .returned (.bool true) ∧ Below w.heap.size w w' := by
  have hb2 := fun o1 o2 => S3.bal2 w o1 o2
  go_enter Tryz.func34, Tryz.ntmps34
  go_wp2_with fail
  refine (zero_closure _).mono ?_
  rintro e w1 ⟨rfl, hb⟩
  have HB := Lib.hid (after (hb2 _ _) hb)
  have hz := hb.size
  have k0 : ∀ (j : Nat) (u : Value), (#[.int .i64 0, .int .i64 0, .int .i64 0, .string ⟨#[]⟩, .slice none 0 0] : Array Value)[j]? = some u → w1.cell? ⟨w.heap.size + 1, j, none⟩ = some u := fun j u hj => (hb.cell (p := ⟨w.heap.size + 1, j, none⟩) (by simp)).trans (by have := S3.newCell (w.alloc (S3.eO zE (.slice none 0 0))) #[.int .i64 0, .int .i64 0, .int .i64 0, .string ⟨#[]⟩, .slice none 0 0] 32 j u hj; rw [S3.sz1] at this; exact this)
  have a0 := k0 0 _ rfl
  have a1 := k0 1 _ rfl
  have a2 := k0 2 _ rfl
  have a3 := k0 3 _ rfl
  have a4 := k0 4 _ rfl
  clear hb hb2 k0
  go_wp2_with fail
  refine (zero_closure _).mono ?_
  rintro e w2 ⟨rfl, hb⟩
  have HB := Lib.hid (after HB.out hb)
  clear hb
  go_wp2_with fail
  go_ret
  exact ⟨rfl, HB.out⟩
theorem zero_no (e : Ex) (v : Value) (A : Option Addr) (n c : Nat) (hv : v = .slice A n c) (he : e.kind ≠ 0) (w : World) : Calls Tryz.prog 75 #[S3.eV e v] w fun E w' => E = .returned (.bool false) ∧ Below w.heap.size w w' := by
  subst hv
  have q : (e.kind == 0) = false := beq_eq_false_iff_ne.2 he
  go_enter Tryz.func75, Tryz.ntmps75
  go_wp2_with fail
  go_ret
  exact ⟨rfl, S3.bal w _⟩
set_option maxHeartbeats 1000000 in
theorem same_one (e : Ex) (ho : S3.OkE e) (he : e.kind ≠ 0) (hx : S3.exB e = true) (va vb : Value) (w : World) (h1 : S3.EIn w w.heap.size e.args va) (h2 : S3.EIn w w.heap.size e.args vb) (hG : S3.Glob w) :
    Calls Tryz.prog 34 #[S3.eV e va, S3.eV e vb] w fun E w' => E = .returned (.bool true) ∧ Below w.heap.size w w' := by
  obtain ⟨A1, c1, rfl⟩ := h1.slice
  obtain ⟨A2, c2, rfl⟩ := h2.slice
  have Z := fun W => zero_no e (.slice A1 e.args.length c1) A1 _ c1 rfl he W
  have SM := fun W (hb : Below w.heap.size w W) => S3.sameExpr_calls e e ho ho (.slice A1 e.args.length c1) (.slice A2 e.args.length c2) W (h1.up hb) (h2.up hb) (hG.up hb)
  rw [show S3.sameE e e = true by simp [S3.sameE, S3.eqE, hx]] at SM
  have SM := Lib.hid SM
  have hb2 := fun o1 o2 => S3.bal2 w o1 o2
  clear h1 h2 hG
  go_enter Tryz.func34, Tryz.ntmps34
  go_wp2_with fail
  refine (Z _).mono ?_
  rintro E w1 ⟨rfl, hb⟩
  have HB := Lib.hid (after (hb2 _ _) hb)
  have hz := hb.size
  have b0 := S3.EBox.keep (S3.EBox.keep (S3.EBox.new w e (.slice A1 e.args.length c1)) (S3.bal _ (S3.eO e (.slice A2 e.args.length c2))) (by simp)) hb (by simp; omega)
  have b1 := S3.EBox.keep (by have := S3.EBox.new (w.alloc (S3.eO e (.slice A1 e.args.length c1))) e (.slice A2 e.args.length c2); rw [S3.sz1] at this; exact this) hb (by simp)
  obtain ⟨x0, x1, x2, x3, x4⟩ := b0
  obtain ⟨y0, y1, y2, y3, y4⟩ := b1
  clear hb hb2
  go_wp2_with fail
  refine (SM.out _ HB.out).mono ?_
  rintro E w2 ⟨rfl, hb⟩
  have HB := Lib.hid (after HB.out hb)
  clear hb
  go_wp2_with fail
  go_ret
  exact ⟨rfl, HB.out⟩
end Go.Proofs.YtoldhocdfkndbaaGreatDoor.E5
