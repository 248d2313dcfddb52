/-
  place.Parse.
-/
import Derived.Test.YthjpcfohpbbacaaDoorText
import Derived.Lib.AtoiAllCases
namespace Go.Proofs.YthjpcfohpbbacaaDoor
open Go Go.RowKit Go.Shelf Go.Sort

theorem placeNum_bounds (l : Bytes) : -9223372036854775808 ≤ placeNum l ∧ placeNum l ≤ 9223372036854775807 := by
  unfold placeNum
  cases h : Lib.atoiAll l
  · exact Lib.atoiAll_bounds h
  · simp
  · simp

/-- What Parse gives. -/
def placeParse (s : Bytes) : Option (Int × Int) :=
  match placeText (placeNum (upTo 58 s)) (placeNum ((behind 58 s).getD [])) with
  | none => none
  | some t => if t = s then some (placeNum (upTo 58 s), placeNum ((behind 58 s).getD [])) else none

theorem behind_le (c : UInt8) (l : Bytes) : ((behind c l).getD []).length ≤ l.length := by
  cases h : behind c l with
  | none => simp
  | some r => have := behind_length h; simp; omega

/-- The result's own block, on the way. -/
structure OnWay (w W : World) : Prop where
  below : Below w.heap.size w W
  c0 : Cell W ⟨w.heap.size, 0, none⟩ (.int .i64 0)
  c1 : Cell W ⟨w.heap.size, 1, none⟩ (.int .i64 0)
  size : w.heap.size < W.heap.size
theorem OnWay.next {w W W' : World} (h : OnWay w W) (hb : Below W.heap.size W W') : OnWay w W' :=
  ⟨h.below.trans (hb.mono h.below.size), h.c0.below hb h.size, h.c1.below hb h.size, Nat.lt_of_lt_of_le h.size hb.size⟩

set_option maxRecDepth 100000 in
theorem end_of_parse {x : Option (Int × Int)} {w W : World} {t : Array Value} {v0 v1 ev u0 u1 : Value} (hb : Below w.heap.size w W)
    (ht2 : t[2]? = some (.pointer (some ⟨w.heap.size, 0, none⟩))) (ht3 : t[3]? = some ev)
    (q0 : Cell W ⟨w.heap.size, 0, none⟩ u0) (q1 : Cell W ⟨w.heap.size, 1, none⟩ u1) (hv : encP x = .agg #[v0, v1]) (hev : encE 7 x = ev) :
    bodyPost Tryd.prog Tryd.f22 (fun e w' => e = Ending.returned (.tuple #[encP x, encE 7 x]) ∧ Below w.heap.size w w') Exit.ret
      { tmps := t, defers := [] } ((W.setCell ⟨w.heap.size, 0, none⟩ v0).setCell ⟨w.heap.size, 1, none⟩ v1) := by
  have h0 := (q0.set v0).setOther (q := ⟨w.heap.size, 1, none⟩) (by intro h; cases h) v1
  have h1 := (q1.setOther (q := ⟨w.heap.size, 0, none⟩) (by intro h; cases h) v0).set v1
  have hb2 := (hb.setCell (p := ⟨w.heap.size, 0, none⟩) (Nat.le_refl _) v0).setCell (p := ⟨w.heap.size, 1, none⟩) (Nat.le_refl _) v1
  generalize (W.setCell ⟨w.heap.size, 0, none⟩ v0).setCell ⟨w.heap.size, 1, none⟩ v1 = W2 at *
  obtain ⟨h0, _⟩ := h0
  obtain ⟨h1, _⟩ := h1
  rw [hv, hev]
  refine bodyPost_ret (v := .tuple #[.agg #[v0, v1], ev]) ?_ rfl ⟨rfl, hb2⟩
  simp [results, Tryd.results22, go_sem, h0, h1, ht2, ht3]

set_option maxRecDepth 100000 in
set_option maxHeartbeats 4000000 in
theorem parse_calls (s : ByteArray) (hs : s.size ≤ 281474976710656) (w : World) (hG : Glob w) :
    Calls Tryd.prog 22 #[.string s] w fun e w' => e = .returned (.tuple #[encP (placeParse s.data.toList), encE 7 (placeParse s.data.toList)]) ∧ Below w.heap.size w w' := by
  unfold placeParse
  have hC := fun W => strings_cut1 s 58 W (by omega)
  have hn1 : (B (upTo 58 s.data.toList)).size ≤ 281474976710656 := by
    have := upTo_le 58 s.data.toList
    rw [← Lib.size_eq] at this
    show (upTo 58 s.data.toList).toArray.size ≤ _
    simp; omega
  have hn2 : (B ((behind 58 s.data.toList).getD [])).size ≤ 281474976710656 := by
    have := behind_le 58 s.data.toList
    rw [← Lib.size_eq] at this
    show ((behind 58 s.data.toList).getD []).toArray.size ≤ _
    simp; omega
  have hN1 := fun W hG => number_calls (B (upTo 58 s.data.toList)) hn1 W hG
  have hN2 := fun W hG => number_calls (B ((behind 58 s.data.toList).getD [])) hn2 W hG
  generalize (behind 58 s.data.toList).isSome = more at hC
  generalize upTo 58 s.data.toList = tl at *
  generalize (behind 58 s.data.toList).getD [] = tc at *
  obtain ⟨l0, l1⟩ := placeNum_bounds tl
  obtain ⟨c0, c1⟩ := placeNum_bounds tc
  have hT := fun W hG => text_calls (placeNum tl) (placeNum tc) l1 c1 W hG
  generalize placeNum tl = l at *
  generalize placeNum tc = c at *
  generalize placeText l c = t at *
  have HC := Lib.hid hC
  have HN1 := Lib.hid hN1
  have HN2 := Lib.hid hN2
  have HT := Lib.hid hT
  have HG := Lib.hid hG
  clear hC hN1 hN2 hT hn1 hn2 hG
  cases t with
  | none =>
    dsimp only
    go_enter Tryd.func22, Tryd.ntmps22
    go_wp2_with fail
    refine (HC.out _).mono ?_
    rintro e w' ⟨rfl, nd, rfl⟩
    have o1 : OnWay w ((w.alloc (.cells #[.int .i64 0, .int .i64 0] 24)).drewN nd) :=
      ⟨below_drewN ((Below.refl _ w).alloc (Nat.le_refl _) _) nd, (Cell.new w _ 24 0 _ rfl).below (below_drewN (Below.refl (w.heap.size + 1) _) nd) (by simp), (Cell.new w _ 24 1 _ rfl).below (below_drewN (Below.refl (w.heap.size + 1) _) nd) (by simp), by simp⟩
    have O1 := Lib.hid o1
    clear o1
    go_wp2_with fail
    refine (HN1.out _ (HG.out.below O1.out.below)).mono ?_
    clear HC HN1
    generalize (w.alloc (.cells #[.int .i64 0, .int .i64 0] 24)).drewN nd = w1 at *
    rintro e w2 ⟨rfl, hb⟩
    have O2 := Lib.hid (O1.out.next hb)
    clear O1 hb
    go_wp2_with fail
    refine (HN2.out _ (HG.out.below O2.out.below)).mono ?_
    clear HN2
    rintro e w3 ⟨rfl, hb⟩
    have O3 := Lib.hid (O2.out.next hb)
    clear O2 hb
    have O4 := Lib.hid (O3.out.next ((Below.refl _ w3).alloc (Nat.le_refl _) (.cells #[.int .i64 l, .int .i64 c] 24)))
    have q0 := Cell.new w3 #[.int .i64 l, .int .i64 c] 24 0 _ rfl
    have q1 := Cell.new w3 #[.int .i64 l, .int .i64 c] 24 1 _ rfl
    have Q0 := Lib.hid q0
    have Q1 := Lib.hid q1
    clear q0 q1
    go_wp2_with fail
    refine (HT.out _ (HG.out.below O4.out.below)).mono ?_
    clear HT HG
    rintro e w5 ⟨rfl, hb⟩
    have O5 := Lib.hid (O4.out.next hb)
    have p0 : w5.cell? ⟨w3.heap.size, 0, none⟩ = some (.int .i64 l) := (Q0.out.below hb (by simp)).1
    have p1 : w5.cell? ⟨w3.heap.size, 1, none⟩ = some (.int .i64 c) := (Q1.out.below hb (by simp)).1
    have hz := O3.out.size
    clear hb O3 O4 Q0 Q1
    obtain ⟨d0, f0⟩ := O5.out.c0
    obtain ⟨d1, f1⟩ := O5.out.c1
    dsimp only [encS, encE]
    go_wp2_with fail
    exact end_of_parse (x := none) O5.out.below rfl rfl ⟨d0, f0⟩ ⟨d1, f1⟩ rfl rfl
  | some t =>
    dsimp only
    by_cases ht : t = s.data.toList
    · rw [if_pos ht]
      have htb : (t == s.toList) = true := by rw [Lib.toList_data]; exact beq_iff_eq.2 ht
      have HTB := Lib.hid htb
      clear ht htb
      go_enter Tryd.func22, Tryd.ntmps22
      go_wp2_with fail
      refine (HC.out _).mono ?_
      rintro e w' ⟨rfl, nd, rfl⟩
      have o1 : OnWay w ((w.alloc (.cells #[.int .i64 0, .int .i64 0] 24)).drewN nd) :=
        ⟨below_drewN ((Below.refl _ w).alloc (Nat.le_refl _) _) nd, (Cell.new w _ 24 0 _ rfl).below (below_drewN (Below.refl (w.heap.size + 1) _) nd) (by simp), (Cell.new w _ 24 1 _ rfl).below (below_drewN (Below.refl (w.heap.size + 1) _) nd) (by simp), by simp⟩
      have O1 := Lib.hid o1
      clear o1
      go_wp2_with fail
      refine (HN1.out _ (HG.out.below O1.out.below)).mono ?_
      clear HC HN1
      generalize (w.alloc (.cells #[.int .i64 0, .int .i64 0] 24)).drewN nd = w1 at *
      rintro e w2 ⟨rfl, hb⟩
      have O2 := Lib.hid (O1.out.next hb)
      clear O1 hb
      go_wp2_with fail
      refine (HN2.out _ (HG.out.below O2.out.below)).mono ?_
      clear HN2
      rintro e w3 ⟨rfl, hb⟩
      have O3 := Lib.hid (O2.out.next hb)
      clear O2 hb
      have O4 := Lib.hid (O3.out.next ((Below.refl _ w3).alloc (Nat.le_refl _) (.cells #[.int .i64 l, .int .i64 c] 24)))
      have q0 := Cell.new w3 #[.int .i64 l, .int .i64 c] 24 0 _ rfl
      have q1 := Cell.new w3 #[.int .i64 l, .int .i64 c] 24 1 _ rfl
      have Q0 := Lib.hid q0
      have Q1 := Lib.hid q1
      clear q0 q1
      go_wp2_with fail
      refine (HT.out _ (HG.out.below O4.out.below)).mono ?_
      clear HT HG
      rintro e w5 ⟨rfl, hb⟩
      have O5 := Lib.hid (O4.out.next hb)
      have p0 : w5.cell? ⟨w3.heap.size, 0, none⟩ = some (.int .i64 l) := (Q0.out.below hb (by simp)).1
      have p1 : w5.cell? ⟨w3.heap.size, 1, none⟩ = some (.int .i64 c) := (Q1.out.below hb (by simp)).1
      have hz := O3.out.size
      clear hb O3 O4 Q0 Q1
      obtain ⟨d0, f0⟩ := O5.out.c0
      obtain ⟨d1, f1⟩ := O5.out.c1
      dsimp only [encS, encE]
      have htb := HTB.out
      go_wp2_with fail
      exact end_of_parse (x := some (l, c)) O5.out.below rfl rfl ⟨d0, f0⟩ ⟨d1, f1⟩ rfl rfl
    · rw [if_neg ht]
      have htb : (t == s.toList) = false := by rw [Lib.toList_data]; exact beq_eq_false_iff_ne.2 ht
      have HTB := Lib.hid htb
      clear ht htb
      go_enter Tryd.func22, Tryd.ntmps22
      go_wp2_with fail
      refine (HC.out _).mono ?_
      rintro e w' ⟨rfl, nd, rfl⟩
      have o1 : OnWay w ((w.alloc (.cells #[.int .i64 0, .int .i64 0] 24)).drewN nd) :=
        ⟨below_drewN ((Below.refl _ w).alloc (Nat.le_refl _) _) nd, (Cell.new w _ 24 0 _ rfl).below (below_drewN (Below.refl (w.heap.size + 1) _) nd) (by simp), (Cell.new w _ 24 1 _ rfl).below (below_drewN (Below.refl (w.heap.size + 1) _) nd) (by simp), by simp⟩
      have O1 := Lib.hid o1
      clear o1
      go_wp2_with fail
      refine (HN1.out _ (HG.out.below O1.out.below)).mono ?_
      clear HC HN1
      generalize (w.alloc (.cells #[.int .i64 0, .int .i64 0] 24)).drewN nd = w1 at *
      rintro e w2 ⟨rfl, hb⟩
      have O2 := Lib.hid (O1.out.next hb)
      clear O1 hb
      go_wp2_with fail
      refine (HN2.out _ (HG.out.below O2.out.below)).mono ?_
      clear HN2
      rintro e w3 ⟨rfl, hb⟩
      have O3 := Lib.hid (O2.out.next hb)
      clear O2 hb
      have O4 := Lib.hid (O3.out.next ((Below.refl _ w3).alloc (Nat.le_refl _) (.cells #[.int .i64 l, .int .i64 c] 24)))
      have q0 := Cell.new w3 #[.int .i64 l, .int .i64 c] 24 0 _ rfl
      have q1 := Cell.new w3 #[.int .i64 l, .int .i64 c] 24 1 _ rfl
      have Q0 := Lib.hid q0
      have Q1 := Lib.hid q1
      clear q0 q1
      go_wp2_with fail
      refine (HT.out _ (HG.out.below O4.out.below)).mono ?_
      clear HT HG
      rintro e w5 ⟨rfl, hb⟩
      have O5 := Lib.hid (O4.out.next hb)
      have p0 : w5.cell? ⟨w3.heap.size, 0, none⟩ = some (.int .i64 l) := (Q0.out.below hb (by simp)).1
      have p1 : w5.cell? ⟨w3.heap.size, 1, none⟩ = some (.int .i64 c) := (Q1.out.below hb (by simp)).1
      have hz := O3.out.size
      clear hb O3 O4 Q0 Q1
      obtain ⟨d0, f0⟩ := O5.out.c0
      obtain ⟨d1, f1⟩ := O5.out.c1
      dsimp only [encS, encE]
      have htb := HTB.out
      go_wp2_with fail
      exact end_of_parse (x := none) O5.out.below rfl rfl ⟨d0, f0⟩ ⟨d1, f1⟩ rfl rfl
end Go.Proofs.YthjpcfohpbbacaaDoor
