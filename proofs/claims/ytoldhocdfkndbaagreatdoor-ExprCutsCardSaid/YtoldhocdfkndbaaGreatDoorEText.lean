/-
  The text of an expression: contract. Written by gen5_text.py.
-/
import Derived.Test.YtoldhocdfkndbaaGreatDoorEDrC
import Derived.BigQuiet
import Derived.Deep.QuietTactic
import Derived.Lib.QuietBelow
namespace Go.Proofs.YtoldhocdfkndbaaGreatDoor.E5
open Go Go.RowKit Go.Sort Go.Proofs.YtoldhocdfkndbaaGreatDoor

theorem parB_len2 (c : Bool) (s : List UInt8) : s.length ≤ (parB c s).length ∧ (parB c s).length ≤ s.length + 2 := by
  cases c with
  | false => exact ⟨Nat.le_refl _, Nat.le_add_right _ _⟩
  | true => simp [parB]; omega
theorem B_two (a b : List UInt8) : (B a ++ B b : ByteArray) = B (a ++ b) := N2.B_append a b
/-- What text says of a tree. -/
def TextC (t : Tr) : Prop := t.tx.length ≤ 100000 → ∀ (v : Value) (w : World), S3.EIn w w.heap.size t.ex.args v → GlobE w → Calls Tryz.prog 24 #[S3.eV t.ex v] w fun e w' => e = .returned (.string (B t.tx)) ∧ Below w.heap.size w w'
def OpC (t : Tr) : Prop := t.tx.length ≤ 100000 → ∀ (v : Value) (w : World), S3.EIn w w.heap.size t.ex.args v → GlobE w → Calls Tryz.prog 63 #[S3.eV t.ex v] w fun e w' => e = .returned (.string (B (parB t.comp t.tx))) ∧ Below w.heap.size w w'
set_option maxRecDepth 100000 in
set_option maxHeartbeats 2000000 in
theorem op_four (e : Ex) (A : Option Addr) (n c : Nat) (hk : e.kind = 4) (s : List UInt8) (hs0 : s.length ≤ 100000) (w : World) (hT : ∀ o, Calls Tryz.prog 24 #[S3.eV e (.slice A n c)] (w.alloc o) fun r w' => r = .returned (.string (B s)) ∧ Below (w.alloc o).heap.size (w.alloc o) w') :
    Calls Tryz.prog 63 #[S3.eV e (.slice A n c)] w fun r w' => r = .returned (.string (B (40 :: (s ++ [41])))) ∧ Below w.heap.size w w' := by
  have HT := Lib.hid hT
  have k4 : (e.kind == 4) = true := by simp [hk]
  clear hk
  clear hT
  go_enter Tryz.func63, Tryz.ntmps63
  go_wp2_with fail
  refine (HT.out _).mono ?_
  rintro r w2 ⟨rfl, hb⟩
  have HB := Lib.hid (after (S3.bal w _) hb)
  clear hb
  go_wp2_with fail
  have hs : (⟨#[40]⟩ ++ B s ++ ⟨#[41]⟩ : ByteArray) = B (40 :: (s ++ [41])) := by
    rw [show (⟨#[40]⟩ : ByteArray) = B [40] from rfl, show (⟨#[41]⟩ : ByteArray) = B [41] from rfl, B_two, B_two]; rfl
  go_ret
  exact ⟨by rw [← hs]; rfl, HB.out⟩
set_option maxRecDepth 100000 in
set_option maxHeartbeats 2000000 in
theorem op_five (e : Ex) (A : Option Addr) (n c : Nat) (hk : e.kind = 5) (s : List UInt8) (hs0 : s.length ≤ 100000) (w : World) (hT : ∀ o, Calls Tryz.prog 24 #[S3.eV e (.slice A n c)] (w.alloc o) fun r w' => r = .returned (.string (B s)) ∧ Below (w.alloc o).heap.size (w.alloc o) w') :
    Calls Tryz.prog 63 #[S3.eV e (.slice A n c)] w fun r w' => r = .returned (.string (B (40 :: (s ++ [41])))) ∧ Below w.heap.size w w' := by
  have HT := Lib.hid hT
  have k4 : (e.kind == 4) = false := by simp [hk]
  have k5 : (e.kind == 5) = true := by simp [hk]
  clear hk
  clear hT
  go_enter Tryz.func63, Tryz.ntmps63
  go_wp2_with fail
  refine (HT.out _).mono ?_
  rintro r w2 ⟨rfl, hb⟩
  have HB := Lib.hid (after (S3.bal w _) hb)
  clear hb
  go_wp2_with fail
  have hs : (⟨#[40]⟩ ++ B s ++ ⟨#[41]⟩ : ByteArray) = B (40 :: (s ++ [41])) := by
    rw [show (⟨#[40]⟩ : ByteArray) = B [40] from rfl, show (⟨#[41]⟩ : ByteArray) = B [41] from rfl, B_two, B_two]; rfl
  go_ret
  exact ⟨by rw [← hs]; rfl, HB.out⟩
set_option maxRecDepth 100000 in
set_option maxHeartbeats 2000000 in
theorem op_other (e : Ex) (A : Option Addr) (n c : Nat) (h4 : e.kind ≠ 4) (h5 : e.kind ≠ 5) (s : List UInt8) (_hs0 : s.length ≤ 100000) (w : World) (hT : ∀ o, Calls Tryz.prog 24 #[S3.eV e (.slice A n c)] (w.alloc o) fun r w' => r = .returned (.string (B s)) ∧ Below (w.alloc o).heap.size (w.alloc o) w') :
    Calls Tryz.prog 63 #[S3.eV e (.slice A n c)] w fun r w' => r = .returned (.string (B (s))) ∧ Below w.heap.size w w' := by
  have HT := Lib.hid hT
  have k4 : (e.kind == 4) = false := by simp [h4]
  have k5 : (e.kind == 5) = false := by simp [h5]
  clear hT
  go_enter Tryz.func63, Tryz.ntmps63
  go_wp2_with fail
  refine (HT.out _).mono ?_
  rintro r w2 ⟨rfl, hb⟩
  have HB := Lib.hid (after (S3.bal w _) hb)
  clear hb
  go_wp2_with fail
  go_ret
  exact ⟨rfl, HB.out⟩
theorem op_of {t : Tr} (h : TextC t) : OpC t := by
  intro hl v w hE hG
  obtain ⟨A, c, rfl⟩ := hE.slice
  have hT := fun o => h hl _ (w.alloc o) (hE.al o) (hG.up (S3.bal w o))
  cases t with
  | num n => exact op_other _ _ _ _ (by show (1 : Int) ≠ 4; decide) (by show (1 : Int) ≠ 5; decide) _ hl w hT
  | bool b => exact op_other _ _ _ _ (by show (2 : Int) ≠ 4; decide) (by show (2 : Int) ≠ 5; decide) _ hl w hT
  | len s => exact op_other _ _ _ _ (by show (7 : Int) ≠ 4; decide) (by show (7 : Int) ≠ 5; decide) _ hl w hT
  | var s => exact op_other _ _ _ _ (by show (3 : Int) ≠ 4; decide) (by show (3 : Int) ≠ 5; decide) _ hl w hT
  | un op a => exact op_four _ _ _ _ rfl _ hl w hT
  | idx s a => exact op_other _ _ _ _ (by show (6 : Int) ≠ 4; decide) (by show (6 : Int) ≠ 5; decide) _ hl w hT
  | bin op a b => exact op_five _ _ _ _ rfl _ hl w hT
set_option maxRecDepth 100000 in
set_option maxHeartbeats 2000000 in
theorem text_num (n : Nat) (hn : n ≤ 9223372036854775807) : TextC (.num n) := by
  intro hl v w hE hG
  obtain ⟨A, c, rfl⟩ := hE.slice
  have HG := Lib.hid (fun o => hG.up (S3.bal w o))
  have HB0 := Lib.hid (fun o => S3.bal w o)
  clear hE hG hl
  show Calls Tryz.prog 24 #[S3.eV ⟨1, 0, (n : Int), [], []⟩ (.slice A 0 c)] w _
  go_enter Tryz.func24, Tryz.ntmps24
  go_wp2_with fail
  refine (Tryz.strconv_FormatInt_10 (n : Int) (by omega) (by omega) _ (HG.out _).n.tab).mono ?_
  rintro e w' ⟨rfl, k, os, rfl⟩
  have HB := Lib.hid (after (HB0.out (S3.eO ⟨1, 0, (n : Int), [], []⟩ (.slice A 0 c))) (Lib.below_grow _ _ (Nat.le_refl _) k os))
  generalize grow (World.drewN _ k) os = w1 at *
  rw [itoa_nn]
  go_wp2_with fail
  go_ret
  exact ⟨rfl, HB.out⟩
set_option maxRecDepth 100000 in
set_option maxHeartbeats 2000000 in
theorem text_bool_true  : TextC (.bool true) := by
  intro hl v w hE hG
  obtain ⟨A, c, rfl⟩ := hE.slice
  have HG := Lib.hid (fun o => hG.up (S3.bal w o))
  have HB0 := Lib.hid (fun o => S3.bal w o)
  clear hE hG hl
  show Calls Tryz.prog 24 #[S3.eV ⟨2, 0, 1, [], []⟩ (.slice A 0 c)] w _
  go_enter Tryz.func24, Tryz.ntmps24
  go_wp2_with fail
  refine (Tryz.strconv_FormatBool true _).mono ?_
  rintro e w' ⟨rfl, rfl⟩
  go_wp2_with fail
  go_ret
  exact ⟨rfl, HB0.out _⟩
set_option maxRecDepth 100000 in
set_option maxHeartbeats 2000000 in
theorem text_bool_false  : TextC (.bool false) := by
  intro hl v w hE hG
  obtain ⟨A, c, rfl⟩ := hE.slice
  have HG := Lib.hid (fun o => hG.up (S3.bal w o))
  have HB0 := Lib.hid (fun o => S3.bal w o)
  clear hE hG hl
  show Calls Tryz.prog 24 #[S3.eV ⟨2, 0, 0, [], []⟩ (.slice A 0 c)] w _
  go_enter Tryz.func24, Tryz.ntmps24
  go_wp2_with fail
  refine (Tryz.strconv_FormatBool false _).mono ?_
  rintro e w' ⟨rfl, rfl⟩
  go_wp2_with fail
  go_ret
  exact ⟨rfl, HB0.out _⟩
set_option maxRecDepth 100000 in
set_option maxHeartbeats 2000000 in
theorem text_var (s : List UInt8) : TextC (.var s) := by
  intro hl v w hE hG
  obtain ⟨A, c, rfl⟩ := hE.slice
  have HG := Lib.hid (fun o => hG.up (S3.bal w o))
  have HB0 := Lib.hid (fun o => S3.bal w o)
  clear hE hG hl
  show Calls Tryz.prog 24 #[S3.eV ⟨3, 0, 0, s, []⟩ (.slice A 0 c)] w _
  go_enter Tryz.func24, Tryz.ntmps24
  go_wp2_with fail
  go_ret
  exact ⟨rfl, HB0.out _⟩
set_option maxRecDepth 100000 in
set_option maxHeartbeats 2000000 in
theorem text_len (s : List UInt8) : TextC (.len s) := by
  intro hl v w hE hG
  obtain ⟨A, c, rfl⟩ := hE.slice
  have HG := Lib.hid (fun o => hG.up (S3.bal w o))
  have HB0 := Lib.hid (fun o => S3.bal w o)
  have hsl : s.length ≤ 100000 := by simp [Tr.tx] at hl; omega
  clear hE hG hl
  show Calls Tryz.prog 24 #[S3.eV ⟨7, 0, 0, s, []⟩ (.slice A 0 c)] w _
  go_enter Tryz.func24, Tryz.ntmps24
  go_wp2_with fail
  have hs : (⟨#[108, 101, 110, 40]⟩ ++ B s ++ ⟨#[41]⟩ : ByteArray) = B ([108, 101, 110, 40] ++ s ++ [41]) := by
    rw [show (⟨#[108, 101, 110, 40]⟩ : ByteArray) = B [108, 101, 110, 40] from rfl, show (⟨#[41]⟩ : ByteArray) = B [41] from rfl, B_two, B_two]
  go_ret
  exact ⟨by rw [show (Tr.len s).tx = [108, 101, 110, 40] ++ s ++ [41] from rfl, ← hs]; rfl, HB0.out _⟩
set_option maxRecDepth 100000 in
set_option maxHeartbeats 4000000 in
theorem text_idx {s : List UInt8} {a : Tr} (ha : TextC a) : TextC (.idx s a) := by
  intro hl v w hE hG
  have l1 : s.length ≤ 100000 := by simp [Tr.tx] at hl; omega
  have l2 : a.tx.length ≤ 100000 := by simp [Tr.tx] at hl; omega
  have ha := ha l2
  clear hl
  obtain ⟨A, c, rfl⟩ := hE.slice
  obtain ⟨_, hat⟩ := S3.EIn.at_ hE
  obtain ⟨bkx, ofx, vlx, hAx, hlx, _, hcx, hsx⟩ := hat 0 (by simp [Tr.ex])
  have hcx0 : S3.ECells w bkx ofx a.ex vlx := by have h9 := hcx; rw [Nat.zero_mul, Nat.add_zero] at h9; exact h9
  have hsx0 : S3.EIn w w.heap.size a.ex.args vlx := hsx
  subst hAx
  clear hat hcx hsx
  obtain ⟨Ax, cx, rfl⟩ := hsx0.slice
  have hb0 := S3.bal w (S3.eO ⟨6, 0, 0, s, [a.ex]⟩ (.slice (some ⟨bkx, ofx, none⟩) 1 c))
  obtain ⟨e0, e1, e2, e3, e4⟩ := S3.EBox.new w ⟨6, 0, 0, s, [a.ex]⟩ (.slice (some ⟨bkx, ofx, none⟩) 1 c)
  obtain ⟨x0, x1, x2, x3, x4⟩ := hcx0.keep (fun i => hb0.cell (p := ⟨bkx, i, none⟩) hlx)
  have hx1 := hsx0.up hb0
  have hG1 := hG.up hb0
  have HB0 := Lib.hid hb0
  clear hE hG hb0 hcx0 hsx0
  show Calls Tryz.prog 24 #[S3.eV ⟨6, 0, 0, s, [a.ex]⟩ (.slice (some ⟨bkx, ofx, none⟩) 1 c)] w _
  go_enter Tryz.func24, Tryz.ntmps24
  go_wp2_with fail
  generalize w.alloc (S3.eO ⟨6, 0, 0, s, [a.ex]⟩ (.slice (some ⟨bkx, ofx, none⟩) 1 c)) = W1 at *
  have C0 := Lib.hid (fun d os => Calls.regrown_of (d := d) (os := os) (ha _ (grow (redrawn W1 d) os) (hx1.up (below_regrown W1 d os)) (hG1.up (below_regrown W1 d os))))
  clear hG1 hx1
  have e0 := fun d os => cell_regrown e0 d os
  have e1 := fun d os => cell_regrown e1 d os
  have e2 := fun d os => cell_regrown e2 d os
  have e3 := fun d os => cell_regrown e3 d os
  have e4 := fun d os => cell_regrown e4 d os
  have x0 := fun d os => cell_regrown x0 d os
  have x1 := fun d os => cell_regrown x1 d os
  have x2 := fun d os => cell_regrown x2 d os
  have x3 := fun d os => cell_regrown x3 d os
  have x4 := fun d os => cell_regrown x4 d os
  have m1 : ¬ 9223372036854775807 < s.length + 1 := by omega
  have m2 : ¬ 9223372036854775807 < s.length + 1 + a.tx.length := by omega
  have m3 : ¬ 9223372036854775807 < s.length + 1 + a.tx.length + 1 := by omega
  refine wp_region_quiet_below (by kernel_rfl) (by kernel_rfl) ?_
  repeat (quiet_step (first | with_reducible exact C0.out _ _))
  refine wpQuiet_nil ?_
  intro _ hw'
  obtain ⟨⟨dq, osq⟩, hw''⟩ := hw'
  subst hw''
  have HZ := Lib.hid (after HB0.out (below_regrown W1 dq osq))
  clear C0
  generalize grow (redrawn W1 dq) osq = w4 at *
  go_wp2_with fail
  have hs : (B s ++ ⟨#[91]⟩ ++ B a.tx ++ ⟨#[93]⟩ : ByteArray) = B (s ++ [91] ++ a.tx ++ [93]) := by
    rw [show (⟨#[91]⟩ : ByteArray) = B [91] from rfl, show (⟨#[93]⟩ : ByteArray) = B [93] from rfl, B_two, B_two, B_two]
  go_ret
  exact ⟨by rw [show (Tr.idx s a).tx = s ++ [91] ++ a.tx ++ [93] from rfl, ← hs]; rfl, HZ.out⟩
set_option maxRecDepth 100000 in
set_option maxHeartbeats 4000000 in
theorem text_un {op : Int} {a : Tr} (ha : OpC a) : TextC (.un op a) := by
  intro hl v w hE hG
  have l0 := parB_len2 a.comp a.tx
  have l1 : (signB op).length ≤ 100000 := by simp [Tr.tx] at hl; omega
  have l2 : (parB a.comp a.tx).length ≤ 100000 := by simp [Tr.tx] at hl; omega
  have ha := ha (by omega)
  clear hl
  obtain ⟨A, c, rfl⟩ := hE.slice
  obtain ⟨_, hat⟩ := S3.EIn.at_ hE
  obtain ⟨bkx, ofx, vlx, hAx, hlx, _, hcx, hsx⟩ := hat 0 (by simp [Tr.ex])
  have hcx0 : S3.ECells w bkx ofx a.ex vlx := by have h9 := hcx; rw [Nat.zero_mul, Nat.add_zero] at h9; exact h9
  have hsx0 : S3.EIn w w.heap.size a.ex.args vlx := hsx
  subst hAx
  clear hat hcx hsx
  obtain ⟨Ax, cx, rfl⟩ := hsx0.slice
  have hb0 := S3.bal w (S3.eO ⟨4, op, 0, [], [a.ex]⟩ (.slice (some ⟨bkx, ofx, none⟩) 1 c))
  obtain ⟨e0, e1, e2, e3, e4⟩ := S3.EBox.new w ⟨4, op, 0, [], [a.ex]⟩ (.slice (some ⟨bkx, ofx, none⟩) 1 c)
  obtain ⟨x0, x1, x2, x3, x4⟩ := hcx0.keep (fun i => hb0.cell (p := ⟨bkx, i, none⟩) hlx)
  have hx1 := hsx0.up hb0
  have hG1 := hG.up hb0
  have HB0 := Lib.hid hb0
  clear hE hG hb0 hcx0 hsx0
  show Calls Tryz.prog 24 #[S3.eV ⟨4, op, 0, [], [a.ex]⟩ (.slice (some ⟨bkx, ofx, none⟩) 1 c)] w _
  go_enter Tryz.func24, Tryz.ntmps24
  go_wp2_with fail
  generalize w.alloc (S3.eO ⟨4, op, 0, [], [a.ex]⟩ (.slice (some ⟨bkx, ofx, none⟩) 1 c)) = W1 at *
  have C0 := Lib.hid (fun d os => Calls.regrown_of (d := d) (os := os) (ha _ (grow (redrawn W1 d) os) (hx1.up (below_regrown W1 d os)) (hG1.up (below_regrown W1 d os))))
  have C1 := Lib.hid (fun d os => Calls.regrown_of (d := d) (os := os) (sign_calls op (grow (redrawn W1 d) os) (hG1.up (below_regrown W1 d os)).o))
  clear hG1 hx1
  have e0 := fun d os => cell_regrown e0 d os
  have e1 := fun d os => cell_regrown e1 d os
  have e2 := fun d os => cell_regrown e2 d os
  have e3 := fun d os => cell_regrown e3 d os
  have e4 := fun d os => cell_regrown e4 d os
  have x0 := fun d os => cell_regrown x0 d os
  have x1 := fun d os => cell_regrown x1 d os
  have x2 := fun d os => cell_regrown x2 d os
  have x3 := fun d os => cell_regrown x3 d os
  have x4 := fun d os => cell_regrown x4 d os
  generalize hq1 : signB op = q1 at *
  generalize hq2 : parB a.comp a.tx = q2 at *
  have m1 : ¬ 9223372036854775807 < q1.length + q2.length := by omega
  refine wp_region_quiet_below (by kernel_rfl) (by kernel_rfl) ?_
  repeat (quiet_step (first | with_reducible exact C0.out _ _ | with_reducible exact C1.out _ _))
  refine wpQuiet_nil ?_
  intro _ hw'
  obtain ⟨⟨dq, osq⟩, hw''⟩ := hw'
  subst hw''
  have HZ := Lib.hid (after HB0.out (below_regrown W1 dq osq))
  clear C0 C1
  generalize grow (redrawn W1 dq) osq = w4 at *
  go_wp2_with fail
  have hs : (B q1 ++ B q2 : ByteArray) = B (q1 ++ q2) := B_two _ _
  go_ret
  exact ⟨by rw [show (Tr.un op a).tx = signB op ++ parB a.comp a.tx from rfl, hq1, hq2, ← hs]; rfl, HZ.out⟩
set_option maxRecDepth 100000 in
set_option maxHeartbeats 4000000 in
theorem text_bin {op : Int} {a b : Tr} (ha : OpC a) (hb : OpC b) : TextC (.bin op a b) := by
  intro hl v w hE hG
  have l0 := parB_len2 a.comp a.tx
  have l9 := parB_len2 b.comp b.tx
  have l1 : (signB op).length ≤ 100000 := by simp [Tr.tx] at hl; omega
  have l2 : (parB a.comp a.tx).length ≤ 100000 := by simp [Tr.tx] at hl; omega
  have l3 : (parB b.comp b.tx).length ≤ 100000 := by simp [Tr.tx] at hl; omega
  have ha := ha (by omega)
  have hb := hb (by omega)
  clear hl
  obtain ⟨A, c, rfl⟩ := hE.slice
  obtain ⟨_, hat⟩ := S3.EIn.at_ hE
  obtain ⟨bkx, ofx, vlx, hAx, hlx, _, hcx, hsx⟩ := hat 0 (by simp [Tr.ex])
  obtain ⟨bky, ofy, vly, hAy, hly, _, hcy, hsy⟩ := hat 1 (by simp [Tr.ex])
  have hcx0 : S3.ECells w bkx ofx a.ex vlx := by have h9 := hcx; rw [Nat.zero_mul, Nat.add_zero] at h9; exact h9
  have hsx0 : S3.EIn w w.heap.size a.ex.args vlx := hsx
  subst hAx
  cases hAy
  have hcy0 : S3.ECells w bkx (ofx + 5) b.ex vly := by have h9 := hcy; rw [Nat.one_mul] at h9; exact h9
  have hsy0 : S3.EIn w w.heap.size b.ex.args vly := hsy
  clear hcy hsy
  clear hat hcx hsx
  obtain ⟨Ax, cx, rfl⟩ := hsx0.slice
  obtain ⟨Ay, cy, rfl⟩ := hsy0.slice
  have hb0 := S3.bal w (S3.eO ⟨5, op, 0, [], [a.ex, b.ex]⟩ (.slice (some ⟨bkx, ofx, none⟩) 2 c))
  obtain ⟨e0, e1, e2, e3, e4⟩ := S3.EBox.new w ⟨5, op, 0, [], [a.ex, b.ex]⟩ (.slice (some ⟨bkx, ofx, none⟩) 2 c)
  obtain ⟨x0, x1, x2, x3, x4⟩ := hcx0.keep (fun i => hb0.cell (p := ⟨bkx, i, none⟩) hlx)
  have hx1 := hsx0.up hb0
  obtain ⟨y0, y1, y2, y3, y4⟩ := hcy0.keep (fun i => hb0.cell (p := ⟨bkx, i, none⟩) hlx)
  have hy1 := hsy0.up hb0
  have hG1 := hG.up hb0
  have HB0 := Lib.hid hb0
  clear hE hG hb0 hcx0 hsx0 hcy0 hsy0
  show Calls Tryz.prog 24 #[S3.eV ⟨5, op, 0, [], [a.ex, b.ex]⟩ (.slice (some ⟨bkx, ofx, none⟩) 2 c)] w _
  go_enter Tryz.func24, Tryz.ntmps24
  go_wp2_with fail
  generalize w.alloc (S3.eO ⟨5, op, 0, [], [a.ex, b.ex]⟩ (.slice (some ⟨bkx, ofx, none⟩) 2 c)) = W1 at *
  have C0 := Lib.hid (fun d os => Calls.regrown_of (d := d) (os := os) (ha _ (grow (redrawn W1 d) os) (hx1.up (below_regrown W1 d os)) (hG1.up (below_regrown W1 d os))))
  have C1 := Lib.hid (fun d os => Calls.regrown_of (d := d) (os := os) (hb _ (grow (redrawn W1 d) os) (hy1.up (below_regrown W1 d os)) (hG1.up (below_regrown W1 d os))))
  have C2 := Lib.hid (fun d os => Calls.regrown_of (d := d) (os := os) (sign_calls op (grow (redrawn W1 d) os) (hG1.up (below_regrown W1 d os)).o))
  clear hG1 hx1 hy1
  have e0 := fun d os => cell_regrown e0 d os
  have e1 := fun d os => cell_regrown e1 d os
  have e2 := fun d os => cell_regrown e2 d os
  have e3 := fun d os => cell_regrown e3 d os
  have e4 := fun d os => cell_regrown e4 d os
  have x0 := fun d os => cell_regrown x0 d os
  have x1 := fun d os => cell_regrown x1 d os
  have x2 := fun d os => cell_regrown x2 d os
  have x3 := fun d os => cell_regrown x3 d os
  have x4 := fun d os => cell_regrown x4 d os
  have y0 := fun d os => cell_regrown y0 d os
  have y1 := fun d os => cell_regrown y1 d os
  have y2 := fun d os => cell_regrown y2 d os
  have y3 := fun d os => cell_regrown y3 d os
  have y4 := fun d os => cell_regrown y4 d os
  generalize hq1 : signB op = q1 at *
  generalize hq2 : parB a.comp a.tx = q2 at *
  generalize hq3 : parB b.comp b.tx = q3 at *
  have m1 : ¬ 9223372036854775807 < q2.length + q1.length := by omega
  have m2 : ¬ 9223372036854775807 < q2.length + q1.length + q3.length := by omega
  refine wp_region_quiet_below (by kernel_rfl) (by kernel_rfl) ?_
  repeat (quiet_step (first | with_reducible exact C0.out _ _ | with_reducible exact C1.out _ _ | with_reducible exact C2.out _ _))
  refine wpQuiet_nil ?_
  intro _ hw'
  obtain ⟨⟨dq, osq⟩, hw''⟩ := hw'
  subst hw''
  have HZ := Lib.hid (after HB0.out (below_regrown W1 dq osq))
  clear C0 C1 C2
  generalize grow (redrawn W1 dq) osq = w4 at *
  go_wp2_with fail
  have hs : (B q2 ++ B q1 ++ B q3 : ByteArray) = B (q2 ++ q1 ++ q3) := by rw [B_two, B_two]
  go_ret
  exact ⟨by rw [show (Tr.bin op a b).tx = parB a.comp a.tx ++ signB op ++ parB b.comp b.tx from rfl, hq1, hq2, hq3, ← hs]; rfl, HZ.out⟩
theorem text_calls (t : Tr) : t.ok → TextC t := by
  induction t with
  | num n => intro h; exact text_num n h
  | bool b => intro _; cases b; exact text_bool_false; exact text_bool_true
  | len s => intro _; exact text_len s
  | var s => intro _; exact text_var s
  | un op a ih => intro h; exact text_un (op_of (ih h.2))
  | idx s a ih => intro h; exact text_idx (ih h.2)
  | bin op a b iha ihb => intro h; exact text_bin (op_of (iha h.2.1)) (op_of (ihb h.2.2))
end Go.Proofs.YtoldhocdfkndbaaGreatDoor.E5
