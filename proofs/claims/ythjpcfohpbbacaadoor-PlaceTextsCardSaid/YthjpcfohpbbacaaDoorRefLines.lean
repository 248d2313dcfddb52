/-
  rewindref01.lines, Line and Count: their contracts.
-/
import Derived.Test.YthjpcfohpbbacaaDoorPosMath
import Derived.Test.YthjpcfohpbbacaaDoorLinesMath
import Derived.Test.YthjpcfohpbbacaaDoorParse
import Derived.WalkKit
import Derived.RangeFuncRecord
import Derived.RegionTactic
import Derived.ChangeAlike
import Derived.BigRegion
import Derived.IntWalk
import Derived.Maps.AppendAt
namespace Go.Proofs.YthjpcfohpbbacaaDoor
open Go Go.RowKit Go.Shelf Go.Sort

theorem infoStr1 : (Tryd.prog.info? 9).map (fun i => (i.zero, i.size, i.bytes)) = some (some (.string ⟨#[]⟩), 1, 16) := by kernel_rfl

def strs (ls : List Bytes) : List Value := ls.map (fun l => Value.string (B l))

/-- The lines so far: at which block, and with how many cells. -/
structure Laid (w W : World) (v : Value) (ls : List Bytes) : Prop where
  below : Below w.heap.size w W
  own : W.ownsRow w.heap.size 9 1 v ls.length (strs ls)

theorem Laid.start (w : World) : Laid w (w.alloc (.cells #[.string ⟨#[]⟩] 9)) (.slice (some ⟨w.heap.size, 0, none⟩) 1 1) [[]] :=
  ⟨(Below.refl _ w).alloc (Nat.le_refl _) _, ⟨rfl, .inr ⟨w.heap.size, 1, #[.string ⟨#[]⟩], rfl, Nat.le_refl _, World.alloc_heap_new _ _, Nat.le_refl _, by unfold maxLen; omega, rfl, rfl⟩⟩⟩
theorem Laid.feed {w W' : World} {v' : Value} {ls : List Bytes} (hb : Below w.heap.size w W') (ho : W'.ownsRow w.heap.size 9 1 v' (ls.length + 1) (strs ls ++ [.string ⟨#[]⟩])) : Laid w W' v' (ls ++ [[]]) :=
  ⟨hb, by rw [List.length_append]; show W'.ownsRow _ _ _ _ _ (strs (ls ++ [[]])); rw [strs, List.map_append]; exact ho⟩
theorem Laid.form {w W : World} {v : Value} {i : List Bytes} {l : Bytes} (h : Laid w W v (i ++ [l])) :
    ∃ g cap, v = .slice (some ⟨g, 0, none⟩) (i.length + 1) cap ∧ w.heap.size ≤ g ∧ g < W.heap.size ∧ W.cell? ⟨g, i.length, none⟩ = some (.string (B l)) ∧ W.frozen? ⟨g, i.length, none⟩ = false ∧ (i.length + 1 ≤ cap) := by
  have hlen : (i ++ [l]).length = i.length + 1 := by simp
  have ho := h.own
  rw [hlen] at ho
  rcases ho.2 with ⟨_, h0⟩ | ⟨g, cap, cur, rfl, hg, hcell, hn, hcap, hsz, htake⟩
  · omega
  · have hc := ho.cellAt i.length (by omega)
    refine ⟨g, cap, rfl, hg, ?_, ?_, ho.frozenAt _, hn⟩
    · rcases Nat.lt_or_ge g W.heap.size with hlt | hge
      · exact hlt
      · rw [Array.getElem?_eq_none hge] at hcell; cases hcell
    · rw [hc]; simp [strs]
theorem Laid.byte {w W : World} {g cap : Nat} {i : List Bytes} {l : Bytes} (h : Laid w W (.slice (some ⟨g, 0, none⟩) (i.length + 1) cap) (i ++ [l])) (hg : w.heap.size ≤ g) (m : Bytes) :
    Laid w (W.setCell ⟨g, i.length, none⟩ (.string (B m))) (.slice (some ⟨g, 0, none⟩) (i.length + 1) cap) (i ++ [m]) := by
  have hlen : (i ++ [l]).length = i.length + 1 := by simp
  have ho := h.own
  rw [hlen] at ho
  have h2 := (ho.stored i.length (.string (B m))).1
  refine ⟨h.below.setCell (p := ⟨g, i.length, none⟩) hg _, ?_⟩
  rw [show (i ++ [m]).length = i.length + 1 by simp]
  have e : (strs (i ++ [l])).set i.length (.string (B m)) = strs (i ++ [m]) := by
    unfold strs
    rw [List.map_append, List.map_append, List.set_append_right _ _ (by simp)]
    simp
  rwa [e] at h2
theorem Laid.drew {w W : World} {v : Value} {ls : List Bytes} (h : Laid w W v ls) : Laid w W.drew v ls := ⟨h.below.drew, h.own⟩

set_option maxRecDepth 100000 in
set_option maxHeartbeats 4000000 in
theorem lines_ref (s : ByteArray) (hs : s.size ≤ 1000) (w : World) :
    Calls Tryd.prog 33 #[.string s] w fun e w' => ∃ v, e = .returned v ∧ Laid w w' v (lines s.data.toList) := by
  obtain ⟨i0, hi, hz0, hz1, hz2⟩ := info_parts infoStr1
  go_enter Tryd.func33, Tryd.ntmps33
  go_wp2_with fail
  go_loopw [3, 4] (fun v i wr => ∃ k : Nat, k ≤ s.size ∧ i = .int .i64 k ∧ Hid (Laid w wr v (lines (s.data.toList.take k)))) (fun _ i _ => s.size - (intOf i).toNat)
  case atStart => exact ⟨0, Nat.zero_le _, rfl, Lib.hid (Laid.start w)⟩
  case round =>
    obtain ⟨k, hk, rfl, hL⟩ := hrel
    by_cases hlt : k < s.size
    · have hkl : k < s.data.toList.length := by rw [← Lib.size_eq]; exact hlt
      have hge : s.data.toList[k] = s[k] := rfl
      have hcount := lines_length_le (s.data.toList.take k)
      rw [List.length_take] at hcount
      have htake : s.data.toList.take (k + 1) = s.data.toList.take k ++ [s[k]] := by rw [← hge]; exact List.take_succ_eq_append_getElem hkl
      by_cases hc : s[k] = 10
      · have hcb : ((s[k].toNat : Int) == 10) = true := by rw [hc]; rfl
        have HT : Hid (lines (s.data.toList.take (k + 1)) = lines (s.data.toList.take k) ++ [[]]) := Lib.hid (by rw [htake, hc, lines_feed])
        clear htake hge hc
        have hsz := hL.out.below.size
        generalize lines (s.data.toList.take k) = ls at *
        have hn : ls.length ≤ 1001 := by omega
        clear hcount
        go_wp2_with (at_builtin; go_loud (refine wpList_append_own _ rfl (.tmp 16) (.tmp 17) 42 rfl w.heap.size 9 i0 (.string ⟨#[]⟩) 1 16 Tryd.underlying42 hi hz0 hz1 hz2 rfl (by decide) _ _ _ rfl (hL.out.own.alloc _) ⟨_, 0, none⟩ 1 1 [.string ⟨#[]⟩] rfl rfl (cell_one_new _ _ _) (by intro u hu; simp at hu; subst hu; rfl) (by unfold maxLen; omega) (by omega) (by simp; omega) ?_; intro v1 w3 hown1 hgrow1 hnil1))
        go_roundw
        case rel =>
          refine ⟨k + 1, by omega, by go_num, Lib.hid ?_⟩
          rw [HT.out]
          exact Laid.feed ((hL.out.below.alloc hL.out.below.size _).grown hgrow1 (by simp; omega) (fun j hj => (hL.out.own.lt j hj).1)) hown1
        case measure => simp [intOf]; omega
      · have hcb : ((s[k].toNat : Int) == 10) = false := beq_eq_false_iff_ne.2 (fun h => hc (UInt8.toNat_inj.1 (by show s[k].toNat = 10; omega)))
        obtain ⟨i, l, h1, h2⟩ := lines_byte (s.data.toList.take k) s[k] hc
        have hll : l.length ≤ k := by
          have h3 := lines_sum (s.data.toList.take k)
          rw [h1, List.length_take] at h3
          simp at h3
          omega
        rw [← htake] at h2
        rw [h1] at hL hcount
        have HT := Lib.hid h2
        have HE : Hid (B l ++ s.extract k (k + 1) = B (l ++ [s[k]])) := Lib.hid (by
          rw [Lib.extract_eq, B_append, List.drop_eq_getElem_cons hkl, show k + 1 - k = 1 by omega]
          rfl)
        clear htake hge hc h1 h2
        obtain ⟨g, cap, rfl, hg, hgl, hcell, hfz, hcap⟩ := hL.out.form
        have hn : i.length + 1 ≤ 1001 := by simp at hcount; omega
        clear hcount
        have e1 : IntKind.i64.wrap ((k : Int) + 1) = (k : Int) + 1 := IntWalk.i64_in _ (by omega)
        have e2 : (0 : Int) ≤ (k : Int) + 1 := by omega
        have e3 : (k : Int) ≤ (k : Int) + 1 := by omega
        have e4 : (k : Int) + 1 ≤ (s.size : Int) := by omega
        have e5 : ((k : Int) + 1).toNat = k + 1 := by omega
        have m1 : ¬ 9223372036854775807 < l.length + (min (k + 1) s.size - k) := by omega
        have m2 : ¬ 9223372036854775807 < l.length + (k + 1 - k) := by omega
        have m3 : ¬ 9223372036854775807 < l.length + 1 := by omega
        have e6 : IntKind.i64.wrap (i.length : Int) = i.length := IntWalk.i64_in _ (by omega)
        go_wp2_with fail
        go_region
        go_wp2_with fail
        go_roundw
        case rel =>
          refine ⟨k + 1, by omega, by go_num, Lib.hid ?_⟩
          rw [HT.out, HE.out]
          exact (hL.out.byte hg _).drew
        case measure => simp [intOf]; omega
    · obtain rfl : k = s.size := by omega
      rw [List.take_of_length_le (by rw [← Lib.size_eq]; exact Nat.le_refl _)] at hL
      go_wp2_with fail
      go_ret
      exact ⟨_, rfl, hL.out⟩

theorem Laid.slice {w W : World} {v : Value} {ls : List Bytes} (h : Laid w W v ls) (hne : ls ≠ []) :
    ∃ g cap, v = .slice (some ⟨g, 0, none⟩) ls.length cap ∧ ls.length ≤ cap ∧ ∀ (k : Nat) (l : Bytes), ls[k]? = some l → W.cell? ⟨g, k, none⟩ = some (.string (B l)) := by
  have ho := h.own
  have hp : 0 < ls.length := List.length_pos_iff.2 hne
  rcases ho.2 with ⟨_, h0⟩ | ⟨g, cap, cur, rfl, hg, hcell, hn, hcap, hsz, htake⟩
  · omega
  · refine ⟨g, cap, rfl, hn, ?_⟩
    intro k l hk
    have hk2 := (List.getElem?_eq_some_iff.1 hk).1
    rw [ho.cellAt k (by omega)]
    simp [strs, hk]

set_option maxRecDepth 100000 in
theorem count_ref (s : ByteArray) (hs : s.size ≤ 1000) (w : World) :
    Calls Tryd.prog 19 #[.string s] w fun e w' => e = .returned (.int .i64 (lines s.data.toList).length) ∧ Below w.heap.size w w' := by
  go_enter Tryd.func19, Tryd.ntmps19
  go_wp2_with fail
  refine (lines_ref s hs _).mono ?_
  rintro e w' ⟨v, rfl, hL⟩
  obtain ⟨g, cap, rfl, hcap, _⟩ := hL.slice (lines_ne _)
  have HB := Lib.hid hL.below
  clear hL
  go_wp2_with fail
  go_ret
  exact ⟨rfl, HB.out⟩

set_option maxRecDepth 100000 in
set_option maxHeartbeats 1000000 in
theorem line_ref (s : ByteArray) (hs : s.size ≤ 1000) (n : Int) (hn0 : -9223372036854775808 ≤ n) (hn1 : n ≤ 9223372036854775807) (w : World) :
    Calls Tryd.prog 17 #[.string s, .int .i64 n] w fun e w' => e = .returned (.tuple #[encS (placeLine s.data.toList n), encE 3 (placeLine s.data.toList n)]) ∧ Below w.heap.size w w' := by
  by_cases hlo : n < 1
  · have e : placeLine s.data.toList n = none := by unfold placeLine; rw [rowAt_none _ _ (.inl hlo)]; rfl
    rw [e]
    clear e
    go_enter Tryd.func17, Tryd.ntmps17
    go_wp2_with fail
    refine (lines_ref s hs _).mono ?_
    rintro e w' ⟨v, rfl, hL⟩
    have HB := Lib.hid hL.below
    clear hL
    go_wp2_with fail
    go_ret2
    exact ⟨rfl, HB.out⟩
  · by_cases hhi : ((lines s.data.toList).length : Int) < n
    · have e : placeLine s.data.toList n = none := by unfold placeLine; rw [rowAt_none _ _ (.inr hhi)]; rfl
      rw [e]
      clear e
      go_enter Tryd.func17, Tryd.ntmps17
      go_wp2_with fail
      refine (lines_ref s hs _).mono ?_
      rintro e w' ⟨v, rfl, hL⟩
      obtain ⟨g, cap, rfl, hcap, _⟩ := hL.slice (lines_ne _)
      have HB := Lib.hid hL.below
      clear hL
      generalize (lines s.data.toList).length = len at *
      go_wp2_with fail
      go_ret2
      exact ⟨rfl, HB.out⟩
    · obtain ⟨k, hk⟩ : ∃ k : Nat, n = (k : Int) + 1 := ⟨(n - 1).toNat, by omega⟩
      obtain ⟨l, hl⟩ : ∃ l, (lines s.data.toList)[k]? = some l := ⟨_, List.getElem?_eq_getElem (by omega)⟩
      obtain ⟨r, h2, h3, _⟩ := rowAt_line s.data.toList k l hl
      have e : placeLine s.data.toList n = some l := by unfold placeLine; rw [hk, h2, ← h3]; rfl
      rw [e]
      clear e h2 h3
      have HL := Lib.hid hl
      have HK := Lib.hid hk
      clear hl hk
      go_enter Tryd.func17, Tryd.ntmps17
      go_wp2_with fail
      refine (lines_ref s hs _).mono ?_
      rintro e w' ⟨v, rfl, hL⟩
      obtain ⟨g, cap, rfl, hcap, hcell⟩ := hL.slice (lines_ne _)
      have hc : w'.cell? ⟨g, n.toNat - 1, none⟩ = some (.string (B l)) := by
        rw [show n.toNat - 1 = k by have := HK.out; omega]; exact hcell k l HL.out
      have HB := Lib.hid hL.below
      clear hL hcell HL HK
      generalize (lines s.data.toList).length = len at *
      have e0 : decide (n < 1) = false := by simpa using hlo
      have e1 : decide ((len : Int) < n) = false := by simpa using hhi
      have e2 : (0 : Int) ≤ n - 1 := by omega
      have e3 : n - 1 < (len : Int) := by omega
      go_wp2_with fail
      go_ret2
      exact ⟨rfl, HB.out⟩
end Go.Proofs.YthjpcfohpbbacaaDoor
