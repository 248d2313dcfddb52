/-
  Scan, of both: contracts. Written by gen_scan.py.
-/
import Derived.Test.YtoldhocdfkndbaaGreatDoorLToken
import Derived.Test.YtoldhocdfkndbaaGreatDoorLSkip
import Derived.Deep.AppendLies
import Derived.Maps.AppendAt
namespace Go.Proofs.YtoldhocdfkndbaaGreatDoor.L4
open Go Go.RowKit Go.Sort

theorem info_partsT {T : TypeId} {z : Value} {n b : Nat} (h : (Tryz.prog.info? T).map (fun i => (i.zero, i.size, i.bytes)) = some (some z, n, b)) : ∃ i, Tryz.prog.info? T = some i ∧ i.zero = some z ∧ i.size = n ∧ i.bytes = b := by
  cases hq : Tryz.prog.info? T with
  | none => rw [hq] at h; cases h
  | some i =>
    rw [hq] at h
    simp at h
    exact ⟨i, rfl, h.1, h.2.1, h.2.2⟩
theorem infoTok : (Tryz.prog.info? 44).map (fun i => (i.zero, i.size, i.bytes)) = some (some (.agg #[.int .i64 0, .string ⟨#[]⟩, .int .i64 0]), 3, 32) := by kernel_rfl
theorem infoRTok : (Tryz.prog.info? 129).map (fun i => (i.zero, i.size, i.bytes)) = some (some (.agg #[.int .i64 0, .string ⟨#[]⟩, .int .i64 0]), 3, 32) := by kernel_rfl
theorem news_new (W : World) (vs : List Value) (T : TypeId) (H : Nat) (hH : W.heap.size = H) : ∀ j u, vs[j]? = some u → (W.alloc (.cells vs.toArray T)).cell? ((⟨H, 0, none⟩ : Addr).add j) = some u := by
  intro j u hj
  subst hH
  rw [show (Addr.add ⟨W.heap.size, 0, none⟩ j) = ⟨W.heap.size, j, none⟩ by unfold Addr.add; split <;> simp_all]
  rw [cell_of_row _ _ j _ _ _ (heap_alloc_new W _)]
  simpa using hj
theorem owns_below {w w' : World} {base : Nat} {e : TypeId} {size : Nat} {v : Value} {n : Nat} {xs : List Value} (h : w.ownsRow base e size v n xs) (hb : Below w.heap.size w w') : w'.ownsRow base e size v n xs := by
  refine ⟨h.1, ?_⟩
  rcases h.2 with h1 | ⟨g, cap, cur, hv, h1, h2, h3⟩
  · exact .inl h1
  · have hg : g < w.heap.size := by
      rcases Nat.lt_or_ge g w.heap.size with hlt | hge
      · exact hlt
      · rw [Array.getElem?_eq_none hge] at h2; cases h2
    exact .inr ⟨g, cap, cur, hv, h1, (hb.block g hg).trans h2, h3⟩
def tkC (t : Tk) : List Value := [.int .i64 t.k, .string (B t.t), .int .i64 (t.a : Int)]
def flatT (l : List Tk) : List Value := l.flatMap tkC
theorem flatT_snoc (l : List Tk) (t : Tk) : flatT (l ++ [t]) = flatT l ++ tkC t := by simp [flatT]
/-- What Scan has put into its list when it stands at a. -/
def ScI (base : Nat) (T : TypeId) (s : Bytes) (a : Nat) (v : Value) (l : List Tk) (w wr : World) : Prop :=
  wr.ownsRow base T 3 v l.length (flatT l) ∧ Below base w wr ∧ l.length ≤ a ∧ ∃ F, s.length < F + a ∧ scan s = (l ++ (scN s F a).1, (scN s F a).2)
theorem ScI.start (base : Nat) (T : TypeId) (s : Bytes) (w wr : World) (h : Below base w wr) : ScI base T s (skAt s 0) (.slice none 0 0) [] w wr :=
  ⟨World.ownsRow_nil _ _ _ _, h, by simp, s.length + 1, by omega, rfl⟩
theorem ScI.stop {base : Nat} {T : TypeId} {s : Bytes} {a : Nat} {v : Value} {l : List Tk} {w wr : World} (h : ScI base T s a v l w wr) (ha : a < s.length) (ht : (tok (s.drop a)).1 = 0) : (scan s).2 = some a := by
  obtain ⟨_, _, _, F, hF, hs⟩ := h
  rw [hs]
  cases F with
  | zero => omega
  | succ F => simp only [scN, if_pos ha, if_pos ht]
theorem ScI.fin {base : Nat} {T : TypeId} {s : Bytes} {v : Value} {l : List Tk} {w wr : World} (h : ScI base T s s.length v l w wr) : scan s = (l, none) := by
  obtain ⟨_, _, _, F, hF, hs⟩ := h
  rw [hs]
  cases F with
  | zero => simp [scN]
  | succ F => simp [scN]
theorem tok_room {s : Bytes} {a : Nat} {k : Int} {t : Bytes} (h : tok (s.drop a) = (k, t)) (hk : k ≠ 0) : a + t.length ≤ s.length ∧ 0 < t.length := by
  obtain ⟨_, h2, h3⟩ := tok_is h hk
  have hp := List.length_pos_iff.2 h3
  have := h2.length_le
  rw [List.length_drop] at this
  constructor
  · omega
  · exact hp
theorem ScI.step {base : Nat} {T : TypeId} {s : Bytes} {a : Nat} {v v' : Value} {l : List Tk} {w wr w8 : World} {k : Int} {t : Bytes} (h : ScI base T s a v l w wr) (ha : a < s.length) (ht : tok (s.drop a) = (k, t)) (hk : k ≠ 0)
    (ho : w8.ownsRow base T 3 v' (l.length + 1) (flatT l ++ tkC ⟨k, t, a⟩)) (hb : Below base w w8) : ScI base T s (skAt s (a + t.length)) v' (l ++ [⟨k, t, a⟩]) w w8 := by
  obtain ⟨_, _, hl, F, hF, hs⟩ := h
  obtain ⟨h1, h2⟩ := tok_room ht hk
  have h3 := skAt_le s (a + t.length) h1
  refine ⟨by rw [flatT_snoc]; simpa using ho, hb, by simp; omega, ?_⟩
  cases F with
  | zero => omega
  | succ F =>
    refine ⟨F, by omega, ?_⟩
    rw [hs]
    simp only [scN, if_pos ha, ht, if_neg hk]
    simp
/-- What Scan returns. -/
def ScanE (base : Nat) (T : TypeId) (s : Bytes) (e : Ending) (w' : World) : Prop :=
  (∀ a, (scan s).2 = some a → e = .returned (.tuple #[.slice none 0 0, .int .i64 (a : Int), .int .i64 7])) ∧
  ((scan s).2 = none → ∃ v, e = .returned (.tuple #[v, .int .i64 0, .int .i64 0]) ∧ w'.ownsRow base T 3 v (scan s).1.length (flatT (scan s).1))
theorem ScanE.bad {base : Nat} {T : TypeId} {s : Bytes} {a : Nat} {w' : World} (h : (scan s).2 = some a) : ScanE base T s (.returned (.tuple #[.slice none 0 0, .int .i64 (a : Int), .int .i64 7])) w' := by
  refine ⟨fun b hb => ?_, fun hn => ?_⟩
  · rw [h] at hb; cases hb; rfl
  · rw [h] at hn; cases hn
theorem ScanE.good {base : Nat} {T : TypeId} {s : Bytes} {l : List Tk} {v : Value} {w' : World} (h : scan s = (l, none)) (ho : w'.ownsRow base T 3 v l.length (flatT l)) : ScanE base T s (.returned (.tuple #[v, .int .i64 0, .int .i64 0])) w' := by
  refine ⟨fun b hb => ?_, fun _ => ⟨v, rfl, ?_⟩⟩
  · rw [h] at hb; cases hb
  · rw [h]; exact ho

set_option maxRecDepth 100000 in
set_option maxHeartbeats 4000000 in
theorem scan_calls (s : Bytes) (hs : s.length ≤ 1000000) (w : World) (hG : Glob w) :
    Calls Tryz.prog 56 #[.string (B s)] w fun e w' => Below w.heap.size w w' ∧ ScanE w.heap.size 44 s e w' := by
  obtain ⟨i0, hi0, hz0, hz1, hz2⟩ := info_partsT infoTok
  have HI0 := Lib.hid hi0
  have HZ0 := Lib.hid hz0
  have HZ1 := Lib.hid hz1
  have HZ2 := Lib.hid hz2
  have hsz : (B s).size = s.length := B_size s
  have HG := Lib.hid hG
  clear hi0 hz0 hz1 hz2 hG
  go_enter Tryz.func56, Tryz.ntmps56
  go_wp2_with fail
  refine (skip_calls s 0 (Nat.zero_le _) (by omega) _).mono ?_
  rintro e w1 ⟨rfl, hb1⟩
  have HST := Lib.hid (ScI.start w.heap.size 44 s w w1 hb1)
  have h00 := skAt_le s 0 (Nat.zero_le _)
  clear hb1
  generalize skAt s 0 = q0 at *
  go_wp2_with fail
  go_loopw [5, 6] (fun v i wr => ∃ (a : Nat) (l : List Tk), a ≤ s.length ∧ i = .int .i64 a ∧ Hid (ScI w.heap.size 44 s a v l w wr)) (fun _ i _ => s.length - (intOf i).toNat)
  case atStart => exact ⟨q0, [], h00.2, rfl, HST⟩
  case round =>
    clear HST h00
    obtain ⟨a, l, ha, rfl, HJ⟩ := hrel
    by_cases hlt : a < s.length
    · have C := fun W hW => token_calls s a (Nat.le_of_lt hlt) (by omega) W hW
      cases ht : tok (s.drop a) with
      | mk k t =>
        rw [ht] at C
        by_cases hk : k = 0
        · subst hk
          have HE := Lib.hid (HJ.out.stop hlt (by rw [ht]))
          have C := Lib.hid C
          have HBW := Lib.hid HJ.out.2.1
          clear ht
          go_wp2_with fail
          refine (C.out _ (HG.out.below HBW.out)).mono ?_
          rintro e w2 ⟨rfl, hb2⟩
          have HB2 := Lib.hid (HBW.out.trans (hb2.mono HBW.out.size))
          clear hb2
          simp only [tkV, if_true, ne_eq, not_true_eq_false, decide_false]
          go_wp2_with fail
          go_ret3
          exact ⟨HB2.out.alloc HB2.out.size _, ScanE.bad HE.out⟩
        · have hv : tkV (k, t) a = .agg #[.int .i64 k, .string (B t), .int .i64 a] := by unfold tkV; rw [if_neg hk]
          have hd : decide ((k, t).1 ≠ 0) = true := decide_eq_true hk
          rw [hv, hd] at C
          have C := Lib.hid C
          obtain ⟨hr1, hr2⟩ := tok_room ht hk
          have HS8 := Lib.hid (fun (v' : Value) (w8 : World) ho hb => HJ.out.step (v' := v') (w8 := w8) hlt ht hk ho hb)
          have HBW := Lib.hid HJ.out.2.1
          have HO := Lib.hid HJ.out.1
          have hla := HJ.out.2.2.1
          have h9 := skAt_le s (a + t.length) hr1
          have HSK := Lib.hid (fun W => skip_calls s (a + t.length) hr1 (by omega) W)
          clear HJ ht hv hd
          go_wp2_with fail
          refine (C.out _ (HG.out.below HBW.out)).mono ?_
          rintro e w2 ⟨rfl, hb2⟩
          have HB2 := Lib.hid (HBW.out.trans (hb2.mono HBW.out.size))
          have HO2 := Lib.hid (owns_below HO.out hb2)
          have hz2 := HB2.out.size
          clear hb2 HO C
          go_wp2_with (at_builtin; go_loud (refine wpList_append_lies _ rfl (.tmp 24) (.tmp 26) 35 rfl w.heap.size 44 i0 _ 3 32 Tryz.underlying35 HI0.out HZ0.out HZ1.out HZ2.out rfl (by decide) u5 l.length (flatT l) rfl ((HO2.out.alloc _).alloc _) ⟨w2.heap.size + 1, 0, none⟩ 1 1 (tkC ⟨k, t, a⟩) rfl rfl (news_new _ _ _ _ (by simp)) (by intro u hu; simp [tkC] at hu; rcases hu with rfl | rfl | rfl <;> rfl) (by decide) (by unfold maxLen; omega) (by omega) (by simp; omega) _ rfl ?_))
          intro g cap w8 hown8 hgr8 hat8 hlt8
          have hlo := HO2.out.lt
          have hg8 := hgr8.size
          have hcell : w8.cell? ⟨w2.heap.size, 1, none⟩ = some (.string (B t)) := by
            rw [hgr8.cell_far ⟨w2.heap.size, 1, none⟩ (by simp; omega) (fun e => by have := (hlo _ e.symm).2; simp at this)]
            rw [World.cell?_alloc_past _ _ _ (by simp), World.cell?_alloc_at _ _ _ _ rfl]
            rfl
          have HB8 := Lib.hid ((((HB2.out.alloc HB2.out.size _).alloc (by simp; omega) _).grown hgr8 (by simp; omega) (fun j hj => (hlo j hj).1)))
          have HN := Lib.hid (HS8.out _ w8 hown8 HB8.out)
          clear hown8 hgr8 hat8 hlo
          go_wp2_with fail
          refine (HSK.out _).mono ?_
          rintro e w9 ⟨rfl, hb9⟩
          have HN9 := Lib.hid (show ScI _ _ _ _ _ _ _ w9 from ⟨owns_below HN.out.1 hb9, HN.out.2.1.trans (hb9.mono HN.out.2.1.size), HN.out.2.2⟩)
          clear hb9
          clear HN HS8 HSK
          generalize skAt s (a + t.length) = q at *
          go_wp2_with fail
          go_roundw
          case rel => exact ⟨q, _, h9.2, rfl, HN9⟩
          case measure => simp [intOf]; omega
    · obtain rfl : a = s.length := by omega
      have HF := Lib.hid HJ.out.fin
      go_wp2_with fail
      go_ret3
      exact ⟨HJ.out.2.1, ScanE.good HF.out HJ.out.1⟩

end Go.Proofs.YtoldhocdfkndbaaGreatDoor.L4
