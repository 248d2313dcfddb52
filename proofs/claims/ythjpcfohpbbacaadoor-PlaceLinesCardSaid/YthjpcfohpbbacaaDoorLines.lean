/-
  rewindlaw01.PlaceLines returns true for every text: the law's walk.
-/
import Derived.Test.YthjpcfohpbbacaaDoorLinesMath
import Derived.Test.YthjpcfohpbbacaaDoorWorks
import Derived.Test.YthjpcfohpbbacaaDoorMath
import Derived.Test.YthjpcfohpbbacaaDoorFrame
import Derived.WalkKit
import Derived.Maps.AppendAt
namespace Go.Proofs.YthjpcfohpbbacaaDoor.lines1
open Go Go.RowKit Go.Proofs.YthjpcfohpbbacaaDoor Go.Sort

theorem owns_below {w w' : World} {base : Nat} {e : TypeId} {size : Nat} {v : Value} {n : Nat} {xs : List Value} (h : w.ownsRow base e size v n xs) (hb : Below w.heap.size w w') : w'.ownsRow base e size v n xs := by
  refine ⟨h.1, ?_⟩
  rcases h.2 with h1 | ⟨g, cap, cur, hv, h1, h2, h3⟩
  · exact .inl h1
  · have hg : g < w.heap.size := by
      rcases Nat.lt_or_ge g w.heap.size with hlt | hge
      · exact hlt
      · rw [Array.getElem?_eq_none hge] at h2; cases h2
    exact .inr ⟨g, cap, cur, hv, h1, (hb.block g hg).trans h2, h3⟩

theorem infoStr : (Tryd.prog.info? 9).map (fun i => (i.zero, i.size, i.bytes)) = some (some (.string ⟨#[]⟩), 1, 16) := by kernel_rfl

set_option maxRecDepth 100000 in
set_option maxHeartbeats 1000000 in
theorem walk_long (s : ByteArray) (hs : 200 < s.size) (hm : s.size ≤ 9223372036854775807) (w : World) (hG : Glob w) :
    Calls Tryd.prog 6 #[.string s] w fun e w' => e = .returned (.bool true) ∧ Below w.heap.size w w' := by
  have HG := Lib.hid hG
  clear hG
  go_enter Tryd.func6, Tryd.ntmps6
  go_wp2_with fail
  refine (works_calls _ HG.out).mono ?_
  clear HG
  rintro e w' ⟨rfl, hb⟩
  go_wp2_with fail
  go_ret
  exact ⟨rfl, hb⟩

set_option maxRecDepth 100000 in
set_option maxHeartbeats 4000000 in
theorem walk (s : ByteArray) (hs : s.size ≤ 200) (L : List ByteArray) (c : Nat) (hL : L.length = c + 1) (hc : c ≤ 200)
    (hCnt : ∀ W, Calls Tryd.prog 18 #[.string s] W fun e w' => e = .returned (.int .i64 (1 + (c : Int))) ∧ Below W.heap.size W w')
    (hSC : ∀ W, Calls Tryd.prog 27 #[.string s, .string ⟨#[10]⟩] W fun e w' => e = .returned (.int .i64 (c : Int)) ∧ w' = W)
    (hLn : ∀ (k : Nat) (x : ByteArray), L[k]? = some x → ∀ W, Calls Tryd.prog 16 #[.string s, .int .i64 ((k : Int) + 1)] W fun e w' => e = .returned (.tuple #[.string x, .int .i64 0]) ∧ Below W.heap.size W w')
    (hCt : ∀ x ∈ L, ∀ W, Calls Tryd.prog 28 #[.string x, .string ⟨#[10]⟩] W fun e w' => e = .returned (.bool false) ∧ w' = W)
    (hJ : ∀ (bk cap : Nat) (W : World), (∀ (j : Nat) x, L[j]? = some x → W.cell? ⟨bk, 0 + j, none⟩ = some (.string x)) → bk < W.heap.size → L.length ≤ cap →
      Calls Tryd.prog 29 #[.slice (some ⟨bk, 0, none⟩) L.length cap, .string ⟨#[10]⟩] W fun e w' => e = .returned (.string s) ∧ Below W.heap.size W w')
    (w : World) (hG : Glob w) :
    Calls Tryd.prog 6 #[.string s] w fun e w' => e = .returned (.bool true) ∧ Below w.heap.size w w' := by
  obtain ⟨i0, hi, hz0, hz1, hz2⟩ := info_parts infoStr
  have HG := Lib.hid hG
  have HCnt := Lib.hid hCnt
  have HSC := Lib.hid hSC
  have HLn := Lib.hid hLn
  have HCt := Lib.hid hCt
  have HJ := Lib.hid hJ
  clear hG hCnt hSC hLn hCt hJ
  go_enter Tryd.func6, Tryd.ntmps6
  go_wp2_with fail
  refine (HCnt.out _).mono ?_
  clear HCnt
  rintro e w1 ⟨rfl, hb1⟩
  have HB1 := Lib.hid hb1
  clear hb1
  go_wp2_with fail
  refine (HSC.out _).mono ?_
  clear HSC
  rintro e w' ⟨rfl, rfl⟩
  go_wp2_with fail
  go_loopw [4, 20] (fun v i wr => ∃ k : Nat, k ≤ c + 1 ∧ i = .int .i64 k ∧ Hid (wr.ownsRow w.heap.size 9 1 v k ((L.take k).map Value.string)) ∧ Hid (Below w.heap.size w wr))
    (fun _ i _ => c + 1 - (intOf i).toNat)
  case atStart => exact ⟨0, Nat.zero_le _, rfl, Lib.hid (World.ownsRow_nil _ _ _ _), HB1⟩
  case round =>
    obtain ⟨k, hk, rfl, hown, hnx⟩ := hrel
    by_cases hlt : k < c + 1
    · obtain ⟨x, hx⟩ : ∃ x, L[k]? = some x := ⟨_, List.getElem?_eq_getElem (by omega)⟩
      have H1 := Lib.hid (HLn.out k x hx)
      have H2 := Lib.hid (HCt.out x (List.mem_of_getElem? hx))
      have HX := Lib.hid hx
      have HH := Lib.hid hL
      clear hx hL HLn HCt HJ
      go_wp2_with fail

      refine (H1.out _).mono ?_
      clear H1
      rintro e w2 ⟨rfl, hb2⟩
      have O2 := Lib.hid (owns_below hown.out hb2)
      have B2 := Lib.hid (after hnx.out hb2)
      clear hb2 hown hnx
      go_wp2_with fail
      refine (H2.out _).mono ?_
      clear H2
      rintro e w' ⟨rfl, rfl⟩
      have hsz := B2.out.size
      go_wp2_with (at_builtin; go_loud (refine wpList_append_own _ rfl (.tmp 36) (.tmp 38) 42 rfl w.heap.size 9 i0 (.string ⟨#[]⟩) 1 16 Tryd.underlying42 hi hz0 hz1 hz2 rfl (by decide) _ _ _ rfl (O2.out.alloc _) ⟨w'.heap.size, 0, none⟩ 1 1 [.string x] rfl rfl (cell_one_new _ _ _) (by intro u hu; simp at hu; subst hu; rfl) (by unfold maxLen; omega) (by omega) (by simp; omega) ?_; intro v1 w3 hown1 hgrow1 hnil1))
      go_roundw
      case rel =>
        refine ⟨k + 1, by omega, by go_num, Lib.hid ?_, Lib.hid ((B2.out.alloc B2.out.size _).grown hgrow1 (by simp; omega) (fun j hj => (O2.out.lt j hj).1))⟩
        rw [List.take_add_one, HX.out]
        simpa using hown1
      case measure => simp [intOf]; omega
    · obtain rfl : k = c + 1 := by omega
      have hf := hown.out.2
      rcases hf with ⟨_, h0⟩ | ⟨g, cap, cur, rfl, hg, hcell, hn, hcap, hsz, htake⟩
      · omega
      · have hgl : g < wr.heap.size := by
          rcases Nat.lt_or_ge g wr.heap.size with hlt | hge
          · exact hlt
          · rw [Array.getElem?_eq_none hge] at hcell; cases hcell
        have hcs : ∀ (j : Nat) x, L[j]? = some x → wr.cell? ⟨g, 0 + j, none⟩ = some (.string x) := by
          intro j x hj
          have hj2 := (List.getElem?_eq_some_iff.1 hj).1
          rw [Nat.zero_add, hown.out.cellAt j (by omega), List.getElem?_map, List.getElem?_take, if_pos (by omega), hj]
          rfl
        have H3 := HJ.out g cap wr hcs hgl (by omega)
        rw [hL] at H3
        have H3 := Lib.hid H3
        clear hcs hgl htake hsz hcap hn hcell hg HJ HLn HCt hown
        go_wp2_with fail
        refine (H3.out).mono ?_
        clear H3
        rintro e w2 ⟨rfl, hb2⟩
        have B2 := Lib.hid (after hnx.out hb2)
        clear hb2 hnx
        go_wp2_with fail
        refine (works_calls _ (HG.out.below B2.out)).mono ?_
        clear HG
        rintro e w4 ⟨rfl, hb⟩
        have B4 := Lib.hid (after B2.out hb)
        clear hb B2
        go_wp2_with fail
        go_ret
        exact ⟨rfl, B4.out⟩

theorem law (s : ByteArray) (hm : s.size ≤ 9223372036854775807) (w : World) (hG : Glob w) :
    Calls Tryd.prog 6 #[.string s] w fun e w' => e = .returned (.bool true) ∧ Below w.heap.size w w' := by
  by_cases hs : 200 < s.size
  · exact walk_long s hs hm w hG
  · have hcl : s.data.toList.count 10 ≤ s.data.toList.length := List.count_le_length
    rw [← Lib.size_eq] at hcl
    have hlen := lines_count s.data.toList
    have hget : ∀ (k : Nat) (x : ByteArray), ((lines s.data.toList).map B)[k]? = some x → ∃ l, (lines s.data.toList)[k]? = some l ∧ x = B l := by
      intro k x h
      rw [List.getElem?_map] at h
      obtain ⟨l, h1, h2⟩ := Option.map_eq_some_iff.1 h
      exact ⟨l, h1, h2.symm⟩
    have hmap : ((lines s.data.toList).map B).map (·.data.toList) = lines s.data.toList := by
      rw [List.map_map]
      conv => rhs; rw [← List.map_id (lines s.data.toList)]
      rfl
    have hjoin : Lib.join (((lines s.data.toList).map B).map (·.data.toList)) [10] = s.data.toList := by rw [hmap]; exact lines_join _
    refine walk s (by omega) ((lines s.data.toList).map B) (s.data.toList.count 10) (by rw [List.length_map]; exact hlen) (by omega) ?_ ?_ ?_ ?_ ?_ w hG
    · intro W
      have h := count_calls s (by omega) W
      rw [hlen] at h
      rw [show (1 : Int) + (s.data.toList.count 10 : Nat) = ((s.data.toList.count 10 + 1 : Nat) : Int) by omega]
      exact h
    · intro W
      exact Tryd.strings_Count_one s 10 W
    · intro k x hx W
      obtain ⟨l, h1, rfl⟩ := hget k x hx
      obtain ⟨r, h2, h3, _⟩ := rowAt_line s.data.toList k l h1
      have h := line_calls s (by omega) ((k : Int) + 1) W
      have e : placeLine s.data.toList ((k : Int) + 1) = some l := by unfold placeLine; rw [h2, ← h3]; rfl
      rw [e] at h
      exact h
    · intro x hx W
      obtain ⟨l, h1, rfl⟩ := List.mem_map.1 hx
      have h := Tryd.strings_Contains_one (B l) 10 W
      rw [show (B l).data.toList = l from rfl, not_in l (lines_free _ l h1)] at h
      exact h
    · intro bk cap W hcells hbk hcap
      have h := Tryd.strings_Join bk 0 cap ((lines s.data.toList).map B) ⟨#[10]⟩ W hcells hbk (by rw [List.length_map]; omega) hcap
        (by show (Lib.join (((lines s.data.toList).map B).map (·.data.toList)) [10]).length ≤ _
            rw [hjoin, ← Lib.size_eq]; omega)
      have e : (⟨(Lib.join (((lines s.data.toList).map B).map (·.data.toList)) (⟨#[10]⟩ : ByteArray).data.toList).toArray⟩ : ByteArray) = s := by
        show (⟨(Lib.join (((lines s.data.toList).map B).map (·.data.toList)) [10]).toArray⟩ : ByteArray) = s
        rw [hjoin]
      rw [e] at h
      exact h
end Go.Proofs.YthjpcfohpbbacaaDoor.lines1
