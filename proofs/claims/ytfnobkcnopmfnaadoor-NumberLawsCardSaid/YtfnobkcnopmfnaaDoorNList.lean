/-
  number.List: its contract.
-/
import Derived.Test.YtfnobkcnopmfnaaDoorNSeq
import Derived.Test.YtfnobkcnopmfnaaDoorNParse
import Derived.RangeFuncBox
namespace Go.Proofs.YtfnobkcnopmfnaaDoor
open Go Go.RowKit Go.Shelf
attribute [local go_sem] Oper.semAt_some

theorem splitSeq_calls (n : Nat) (s sep : ByteArray) (w : World) :
    CallsIn Fence.wide n Tryd.prog 35 #[.string s, .string sep, .int .i64 0] w fun e w' => e = .returned (.func (.func 44) #[] #[.pointer (some ⟨w.heap.size + 1, 0, none⟩), .pointer (some ⟨w.heap.size, 0, none⟩), .pointer (some ⟨w.heap.size + 2, 0, none⟩)]) ∧
      w' = ((w.alloc (.cells #[.string s] 9)).alloc (.cells #[.string sep] 9)).alloc (.cells #[.int .i64 0] 3) := by
  refine callsIn_of_wp Tryd.func35 rfl trivial ?_ rfl
  simp only [Tryd.ntmps35, List.size_toArray, List.length_cons, List.length_nil, Nat.reduceAdd, Nat.reduceSub, Array.replicate_succ, Array.replicate_zero, List.push_toArray, List.append_toArray, List.nil_append, List.cons_append]
  gi_wp2
  go_ret
  exact ⟨rfl, rfl⟩
theorem seq_calls (n : Nat) (s sep : ByteArray) (w : World) :
    CallsIn Fence.wide n Tryd.prog 28 #[.string s, .string sep] w fun e w' => e = .returned (.func (.func 44) #[] #[.pointer (some ⟨w.heap.size + 1, 0, none⟩), .pointer (some ⟨w.heap.size, 0, none⟩), .pointer (some ⟨w.heap.size + 2, 0, none⟩)]) ∧
      w' = ((w.alloc (.cells #[.string s] 9)).alloc (.cells #[.string sep] 9)).alloc (.cells #[.int .i64 0] 3) := by
  refine callsIn_of_wp Tryd.func28 rfl trivial ?_ rfl
  simp only [Tryd.ntmps28, List.size_toArray, List.length_cons, List.length_nil, Nat.reduceAdd, Nat.reduceSub, Array.replicate_succ, Array.replicate_zero, List.push_toArray, List.append_toArray, List.nil_append, List.cons_append]
  gi_wp2_with fail
  refine ⟨trivial, fun h => (by cases h), (splitSeq_calls _ _ _ _).mono ?_⟩
  rintro e w' ⟨rfl, rfl⟩
  gi_wp2_with fail
  go_ret
  exact ⟨rfl, rfl⟩

def ListIs (w : World) (s : Bytes) (e : Ending) (w' : World) : Prop :=
  ∃ v, e = .returned (.tuple #[v, encE 7 (numList s)]) ∧ Ints w' v (listOr (numList s)) ∧ Below w.heap.size w w'

theorem allNums_none {l : List Bytes} {x : Bytes} (hx : x ∈ l) (h : numParse x = none) : allNums l = none := by
  induction l with
  | nil => cases hx
  | cons a l ih =>
    rw [allNums]
    rcases List.mem_cons.1 hx with rfl | hx
    · rw [h]
    · cases numParse a with
      | none => rfl
      | some n => simp only; rw [ih hx]
theorem allNums_snoc {l : List Bytes} {ns : List Int} {x : Bytes} {n : Int} (h : allNums l = some ns) (hx : numParse x = some n) : allNums (l ++ [x]) = some (ns ++ [n]) := by
  induction l generalizing ns with
  | nil => rw [allNums] at h; cases h; rw [List.nil_append, allNums, hx, allNums]; rfl
  | cons a l ih =>
    rw [allNums] at h
    rw [List.cons_append, allNums]
    cases ha : numParse a with
    | none => rw [ha] at h; cases h
    | some m =>
      rw [ha] at h
      simp only at h ⊢
      cases hl : allNums l with
      | none => rw [hl] at h; cases h
      | some ms => rw [hl] at h; cases h; rw [ih hl]; rfl
theorem allNums_length {l : List Bytes} {ns : List Int} (h : allNums l = some ns) : ns.length = l.length := by
  induction l generalizing ns with
  | nil => rw [allNums] at h; cases h; rfl
  | cons a l ih =>
    rw [allNums] at h
    cases ha : numParse a with
    | none => rw [ha] at h; cases h
    | some m =>
      rw [ha] at h
      simp only at h
      cases hl : allNums l with
      | none => rw [hl] at h; cases h
      | some ms => rw [hl] at h; cases h; simp [ih hl]
theorem parts_length (c : UInt8) (l : Bytes) : (parts c l).length ≤ l.length + 1 := by
  induction l with
  | nil => simp [parts]
  | cons b r ih =>
    unfold parts
    split
    · simpa using ih
    · split
      · simp
      · rename_i h; rw [h] at ih; simp at ih ⊢; omega

/-- A row in blocks from base on: a turn below them leaves it. -/
theorem row_low {W W' : World} {row : Option Nat} {base : Nat} {T : TypeId} {z : Nat} {v : Value} {n : Nat} {xs : List Value} (h : W.ownsRow base T z v n xs) (hg : W.grownBy W' row) (hr : ∀ r, row = some r → r < base) : W'.ownsRow base T z v n xs := by
  obtain ⟨h1, h2 | ⟨g, cap, cur, h3, h4, h5, h6⟩⟩ := h
  · exact ⟨h1, .inl h2⟩
  · exact ⟨h1, .inr ⟨g, cap, cur, h3, h4, (hg.block g (Array.getElem?_eq_some_iff.1 h5).1 (fun e => by have := hr _ e.symm; omega)).trans h5, h6⟩⟩
theorem row_below {W W' : World} {base : Nat} {T : TypeId} {z : Nat} {v : Value} {n : Nat} {xs : List Value} (h : W.ownsRow base T z v n xs) (hb : Below W.heap.size W W') : W'.ownsRow base T z v n xs := by
  obtain ⟨h1, h2 | ⟨g, cap, cur, h3, h4, h5, h6⟩⟩ := h
  · exact ⟨h1, .inl h2⟩
  · exact ⟨h1, .inr ⟨g, cap, cur, h3, h4, (hb.block g (Array.getElem?_eq_some_iff.1 h5).1).trans h5, h6⟩⟩
theorem row_block {W : World} {base : Nat} {T : TypeId} {z : Nat} {v : Value} {n : Nat} {xs : List Value} (h : W.ownsRow base T z v n xs) : ∀ r, v.ownBlock = some r → base ≤ r := by
  obtain ⟨h1, ⟨rfl, h2⟩ | ⟨g, cap, cur, rfl, h4, h5, h6⟩⟩ := h
  · intro r e; cases e
  · intro r e; cases e; exact h4
theorem row_slice {W : World} {base : Nat} {T : TypeId} {z : Nat} {v : Value} {n : Nat} {xs : List Value} (h : W.ownsRow base T z v n xs) : ∃ a k c, v = .slice a k c := by
  obtain ⟨h1, ⟨rfl, h2⟩ | ⟨g, cap, cur, rfl, h4, h5, h6⟩⟩ := h
  · exact ⟨_, _, _, rfl⟩
  · exact ⟨_, _, _, rfl⟩
/-- An owned row of numbers reads as them. -/
theorem row_ints {W : World} {base : Nat} {T : TypeId} {v : Value} {ns : List Int} (h : W.ownsRow base T 1 v ns.length (ns.map (Value.int .i64))) : Ints W v ns := by
  obtain ⟨h1, ⟨rfl, h2⟩ | ⟨g, cap, cur, rfl, h4, h5, h6, h7, h8, h9⟩⟩ := h
  · exact ⟨.inl ⟨rfl, List.length_eq_zero_iff.1 h2⟩⟩
  · refine ⟨.inr ⟨g, 0, cap, rfl, (Array.getElem?_eq_some_iff.1 h5).1, fun k n hk => ?_⟩⟩
    have hlt : k < ns.length := (List.getElem?_eq_some_iff.1 hk).1
    unfold World.cell?
    simp only [h5, Nat.zero_add]
    have e : (cur.toList.take (ns.length * 1))[k]? = some (.int .i64 n) := by rw [h9, List.getElem?_map, hk]; rfl
    rw [List.getElem?_take_of_lt (by omega)] at e
    simpa using e

theorem KeepsIn.grown {lo hi : Nat} {A W W' : World} {row : Option Nat} (h : KeepsIn lo hi A W) (hg : W.grownBy W' row) (hr : ∀ r, row = some r → r < lo ∨ hi ≤ r) : KeepsIn lo hi A W' :=
  h.trans ⟨hg.size, fun k h1 h2 h3 => hg.block k h3 (fun e => by have := hr _ e.symm; omega)⟩
theorem putObj_cell {W : World} {D : Nat} {o' : Obj} {p : Addr} {v : Value} (h : Cell W p v) (hne : p.block ≠ D) : Cell (W.putObj D o') p v :=
  h.grown (grownBy_putObj' W D o') (fun e => hne (by cases e; rfl))

set_option maxRecDepth 100000 in
theorem end_of_list {s : Bytes} {w W : World} {n0 D : Nat} {t : Array Value} {v ev : Value} (hn0 : w.heap.size = n0) (hD : n0 + 2 < D) (hK : W.heap[D]? = some (.deferred (some []))) (hb : Below n0 w W)
    (ht2 : t[2]? = some (.pointer (some ⟨n0, 0, none⟩))) (ht3 : t[3]? = some (.pointer (some ⟨n0 + 1, 0, none⟩)))
    (q0 : Cell W ⟨n0, 0, none⟩ v) (q1 : Cell W ⟨n0 + 1, 0, none⟩ ev) (hI : ∀ W', W.grownBy W' (some D) → Ints W' v (listOr (numList s))) (hev : encE 7 (numList s) = ev) :
    bodyPostM Fence.wide 5 Tryd.prog Tryd.f14 (ListIs w s) Exit.ret
      { tmps := t, defers := [{ target := .collected D, args := #[] }] } W := by
  refine ⟨by simp, .inl ⟨_, _, rfl, run_takeDeferred hK, ?_⟩⟩
  have hI2 := hI _ (grownBy_putObj' W D (.deferred none))
  obtain ⟨q0, _⟩ := putObj_cell (o' := .deferred none) q0 (show n0 ≠ D by omega)
  obtain ⟨q1, _⟩ := putObj_cell (o' := .deferred none) q1 (show n0 + 1 ≠ D by omega)
  have hb2 : Below n0 w (W.putObj D (.deferred none)) := hb.grown (grownBy_putObj' W D _) (by have := hb.size; omega) (fun k e => by cases e; omega)
  subst hn0
  refine ⟨_, ?_, v, rfl, hI2, hb2⟩
  rw [hev]
  simp [results, Tryd.results14, go_sem, q0, q1, ht2, ht3]

theorem info_i64 : (Tryd.prog.info? 2).map (fun i => (i.zero, i.size, i.bytes)) = some (some (.int .i64 0), 1, 8) := by kernel_rfl

theorem list_empty (w : World) : Calls Tryd.prog 14 #[.string ⟨#[]⟩] w (ListIs w []) := by
  have e1 : (ByteArray.mk #[]).toList = [] := by rw [Lib.toList_data]
  go_enter Tryd.func14, Tryd.ntmps14
  go_wp2_with fail
  refine bodyPost_ret (v := .tuple #[.slice none 0 0, .int .i64 0]) ?_ rfl ⟨_, rfl, ⟨.inl ⟨rfl, rfl⟩⟩, ((Below.refl _ w).alloc (Nat.le_refl _) _).alloc (by simp) _⟩
  simp [results, Tryd.results14, go_sem]

set_option maxRecDepth 100000 in
set_option maxHeartbeats 4000000 in
theorem list_in (s : ByteArray) (hne : s.data.toList ≠ []) (hs : s.size ≤ 1000000) (w : World) (hG : Glob w) :
    CallsIn Fence.wide 5 Tryd.prog 14 #[.string s] w (ListIs w s.data.toList) := by
  have e1 : s.toList.isEmpty = false := by rw [Lib.toList_data]; simpa using hne
  obtain ⟨i0, hi, hz0, hz1, hz2⟩ := info_parts info_i64
  have HG := Lib.hid hG
  have HNE := Lib.hid hne
  clear hG hne
  refine callsIn_of_wp_marks Tryd.func14 rfl trivial ?_ rfl
  simp only [Tryd.ntmps14, List.size_toArray, List.length_cons, List.length_nil, Nat.reduceAdd, Nat.reduceSub, Array.replicate_succ, Array.replicate_zero, List.push_toArray, List.append_toArray, List.nil_append, List.cons_append]
  gi_wp2_with (refine ⟨trivial, ?_⟩; gi_at_call 28; refine (seq_calls _ _ _ _).mono ?_; rintro e w' ⟨rfl, rfl⟩)
  have hb0 : Below w.heap.size w ((((((w.alloc (.cells #[.slice none 0 0] 26)).alloc (.cells #[.int .i64 0] 23)).alloc (.cells #[.slice none 0 0] 26)).alloc (.cells #[.string s] 9)).alloc (.cells #[.string ⟨#[44]⟩] 9)).alloc (.cells #[.int .i64 0] 3)) :=
    ((((((Below.refl _ w).alloc (Nat.le_refl _) _).alloc (by simp) _).alloc (by simp; omega) _).alloc (by simp; omega) _).alloc (by simp; omega) _).alloc (by simp; omega) _
  have k0 := (((((Cell.new w #[.slice none 0 0] 26 0 _ rfl).alloc (.cells #[.int .i64 0] 23)).alloc (.cells #[.slice none 0 0] 26)).alloc (.cells #[.string s] 9)).alloc (.cells #[.string ⟨#[44]⟩] 9)).alloc (.cells #[.int .i64 0] 3)
  have k1 := ((((Cell.new (w.alloc (.cells #[.slice none 0 0] 26)) #[.int .i64 0] 23 0 _ rfl).alloc (.cells #[.slice none 0 0] 26)).alloc (.cells #[.string s] 9)).alloc (.cells #[.string ⟨#[44]⟩] 9)).alloc (.cells #[.int .i64 0] 3)
  have k2 := (((Cell.new ((w.alloc (.cells #[.slice none 0 0] 26)).alloc (.cells #[.int .i64 0] 23)) #[.slice none 0 0] 26 0 _ rfl).alloc (.cells #[.string s] 9)).alloc (.cells #[.string ⟨#[44]⟩] 9)).alloc (.cells #[.int .i64 0] 3)
  have k3 := ((Cell.new (((w.alloc (.cells #[.slice none 0 0] 26)).alloc (.cells #[.int .i64 0] 23)).alloc (.cells #[.slice none 0 0] 26)) #[.string s] 9 0 _ rfl).alloc (.cells #[.string ⟨#[44]⟩] 9)).alloc (.cells #[.int .i64 0] 3)
  have k4 := (Cell.new ((((w.alloc (.cells #[.slice none 0 0] 26)).alloc (.cells #[.int .i64 0] 23)).alloc (.cells #[.slice none 0 0] 26)).alloc (.cells #[.string s] 9)) #[.string ⟨#[44]⟩] 9 0 _ rfl).alloc (.cells #[.int .i64 0] 3)
  have k5 := Cell.new (((((w.alloc (.cells #[.slice none 0 0] 26)).alloc (.cells #[.int .i64 0] 23)).alloc (.cells #[.slice none 0 0] 26)).alloc (.cells #[.string s] 9)).alloc (.cells #[.string ⟨#[44]⟩] 9)) #[.int .i64 0] 3 0 _ rfl
  have hsz : ((((((w.alloc (.cells #[.slice none 0 0] 26)).alloc (.cells #[.int .i64 0] 23)).alloc (.cells #[.slice none 0 0] 26)).alloc (.cells #[.string s] 9)).alloc (.cells #[.string ⟨#[44]⟩] 9)).alloc (.cells #[.int .i64 0] 3)).heap.size = w.heap.size + 6 := by simp
  simp only [World.size_alloc] at k1 k2 k3 k4 k5
  generalize (((((w.alloc (.cells #[.slice none 0 0] 26)).alloc (.cells #[.int .i64 0] 23)).alloc (.cells #[.slice none 0 0] 26)).alloc (.cells #[.string s] 9)).alloc (.cells #[.string ⟨#[44]⟩] 9)).alloc (.cells #[.int .i64 0] 3) = w4 at hb0 k0 k1 k2 k3 k4 k5 hsz ⊢
  generalize hn0 : w.heap.size = n0 at *
  have HN0 := Lib.hid hn0
  clear hn0
  have HG4 : Hid (∀ W, Below n0 w W → Glob W) := Lib.hid fun W h => by
    rw [← HN0.out] at h
    exact HG.out.below h
  have hLE := parts_length 44 s.data.toList
  rw [← Lib.size_eq] at hLE
  have HLE := Lib.hid hLE
  clear hLE HG
  refine wpIn_rangeFunc_ownC rfl (by omega) (gf := 44) (lb := #[.pointer (some ⟨n0 + 3 + 1, 0, none⟩), .pointer (some ⟨n0 + 3, 0, none⟩), .pointer (some ⟨n0 + 3 + 2, 0, none⟩)]) rfl trivial (enters_of Tryd.func44 (by kernel_rfl) rfl)
    (split_stops 4 s (by omega) 44 (n0 + 3) (n0 + 3) w4 (Nat.le_refl _) (by omega) k3 k4 k5) (Below.refl _ _) (fun _ => rfl)
    (fun pre W => ∃ v ns, Hid (allNums pre = some ns) ∧ Cell W ⟨n0 + 1 + 1, 0, none⟩ v ∧ W.ownsRow (n0 + 8) 2 1 v ns.length (ns.map (Value.int .i64)) ∧ Cell W ⟨n0, 0, none⟩ (.slice none 0 0) ∧ Cell W ⟨n0 + 1, 0, none⟩ (.int .i64 0) ∧ Below n0 w W)
    (fun c pre W => c = .ret ∧ ∃ (p : List Bytes) (x : Bytes), pre = p ++ [x] ∧ numParse x = none ∧ Cell W ⟨n0, 0, none⟩ (.slice none 0 0) ∧ Cell W ⟨n0 + 1, 0, none⟩ (.int .i64 7) ∧ Below n0 w W)
    (by omega)
    (fun s A B row hs hg hr => by
      obtain ⟨v, ns, h1, h2, h3, h4, h5, h6⟩ := hs
      exact ⟨v, ns, h1, h2.in hg hr (by simp <;> omega), row_low h3 hg (fun r e => by have := hr r e; omega), h4.in hg hr (by simp <;> omega), h5.in hg hr (by simp <;> omega), h6.grown hg (by have := h6.size; have := HN0.out; omega) (fun q e => by have := hr q e; omega)⟩)
    (fun c s A B row hs hg hr => by
      obtain ⟨hc, p, x, h1, h2, h3, h4, h5⟩ := hs
      exact ⟨hc, p, x, h1, h2, h3.in hg hr (by simp <;> omega), h4.in hg hr (by simp <;> omega), h5.grown hg (by have := h5.size; have := HN0.out; omega) (fun q e => by have := hr q e; omega)⟩)
    ⟨_, [], rfl, k2, World.ownsRow_nil _ _ _ _, k0, k1, hb0⟩
    (fun x a' W => a' = { tmps := #[.string s, undef, .pointer (some ⟨n0, 0, none⟩), .pointer (some ⟨n0 + 1, 0, none⟩), .pointer (some ⟨n0 + 1 + 1, 0, none⟩), .string (B x), undef, undef, .string s, .bool false, .string s, .func (.func 44) #[] #[.pointer (some ⟨n0 + 3 + 1, 0, none⟩), .pointer (some ⟨n0 + 3, 0, none⟩), .pointer (some ⟨n0 + 3 + 2, 0, none⟩)], .string (B x), undef, undef, undef, undef, undef, undef, undef, undef, undef, undef, undef, undef, undef], defers := [] })
    (fun x a' _ A B row hs hg hr => hs)
    ?assign ?body ?done ?stop
  case assign =>
    rintro l pre x W Kt hI hW hK
    gi_wp2_with fail
    exact hK _ _ (KeepsIn.refl _ _ _) hI rfl
  case body =>
    rintro l pre x a' W ⟨v, ns, h1, ⟨c2, f2⟩, hrow, ⟨c0, f0⟩, ⟨c1, f1⟩, hB⟩ rfl hlen hsp hW
    clear hsp hb0 k0 k1 k2 k3 k4 k5
    have C := parse_calls (B x) W (HG4.out W hB)
    rw [show (B x).data.toList = x by simp] at C
    have hln := allNums_length h1.out
    have hle := HLE.out
    have HB := Lib.hid hB
    have HH1 := Lib.hid h1.out
    have hl1 : ns.length + 1 ≤ 1000001 := by omega
    clear h1 hB hln hlen hle
    cases hp : numParse x with
    | none =>
      rw [hp] at C
      simp only [encN, encE] at C
      have HC := Lib.hid C
      have HP := Lib.hid hp
      clear C hp
      gi_wp2_with fail
      refine ⟨trivial, (CallsIn.inRound l (callsIn_wide.2 HC.out)).mono ?_⟩
      clear HC
      rintro e w1 ⟨rfl, hb⟩
      obtain ⟨q0, p0⟩ := Cell.below ⟨c0, f0⟩ hb (show n0 < W.heap.size by omega)
      obtain ⟨q1, p1⟩ := Cell.below ⟨c1, f1⟩ hb (show n0 + 1 < W.heap.size by omega)
      have K1 := Lib.hid ((KeepsIn.refl (min (n0 + 3) w4.heap.size) (w4.heap.size + 2 + 0) W).below hb hW)
      have B1 := Lib.hid (HB.out.trans (hb.mono (by have := HB.out.size; omega)))
      have hz1' := hb.size
      clear hb c0 f0 c1 f1
      gi_wp2_with fail
      refine ⟨(K1.out.setCell (p := ⟨n0, 0, none⟩) ?_ _).setCell (p := ⟨n0 + 1, 0, none⟩) ?_ _, rfl, pre, x, rfl, HP.out, (Cell.set ⟨q0, p0⟩ _).setOther (by intro h; cases h) _, (Cell.setOther ⟨q1, p1⟩ (by intro h; cases h) _).set _, ?_⟩
      · left; show n0 < _; omega
      · left; show n0 + 1 < _; omega
      · exact (B1.out.setCell (p := ⟨n0, 0, none⟩) (Nat.le_refl _) _).setCell (p := ⟨n0 + 1, 0, none⟩) (show n0 ≤ n0 + 1 by omega) _
    | some n =>
      rw [hp] at C
      simp only [encN, encE] at C
      have HC := Lib.hid C
      have HP := Lib.hid hp
      clear C hp
      gi_wp2_with fail
      refine ⟨trivial, (CallsIn.inRound l (callsIn_wide.2 HC.out)).mono ?_⟩
      clear HC
      rintro e w1 ⟨rfl, hb⟩
      obtain ⟨q2, p2⟩ := Cell.below ⟨c2, f2⟩ hb (show n0 + 1 + 1 < W.heap.size by omega)
      have K0 := Lib.hid (Cell.below ⟨c0, f0⟩ hb (show n0 < W.heap.size by omega))
      have K1 := Lib.hid (Cell.below ⟨c1, f1⟩ hb (show n0 + 1 < W.heap.size by omega))
      have K2 := Lib.hid ((KeepsIn.refl (min (n0 + 3) w4.heap.size) (w4.heap.size + 2 + 0) W).below hb hW)
      have B1 := Lib.hid (HB.out.trans (hb.mono (by have := HB.out.size; omega)))
      have HR := Lib.hid (row_below hrow hb)
      have hz1' := hb.size
      clear hb c0 f0 c1 f1 hrow
      have HQ := Lib.hid (show Cell w1 ⟨n0 + 1 + 1, 0, none⟩ v from ⟨q2, p2⟩)
      gi_wp2_with (gi_at_builtin; go_loud (refine wpListIn_append_own _ rfl (.tmp 21) (.tmp 23) 26 rfl (n0 + 8) 2 i0 (.int .i64 0) 1 8 Tryd.underlying26 hi hz0 hz1 hz2 rfl (by decide) v ns.length (ns.map (Value.int .i64)) rfl (HR.out.alloc _) ⟨w1.heap.size, 0, none⟩ 1 1 [.int .i64 n] rfl rfl (cell_one_new _ _ _) (by simp [Value.oneCell']) (by unfold maxLen; omega) (by omega) (by simp; omega) ?_; intro v1 w3 hown1 hgrow1 hnil1; clear hnil1; obtain ⟨g', cap', rfl⟩ := ownsRow_succ hown1; obtain ⟨q2', p2'⟩ := (Cell.alloc HQ.out _).grown hgrow1 (fun e => by have := row_block HR.out _ e.symm; simp at this; omega); clear q2 p2))
      have HW := Lib.hid hown1
      have HGR := Lib.hid hgrow1
      have hne : ∀ r, v.ownBlock = some r → n0 + 8 ≤ r := row_block HR.out
      have HNE2 := Lib.hid hne
      refine ⟨((K2.out.alloc _).grown HGR.out (fun r e => by have := HNE2.out r e; omega)).setCell (p := ⟨n0 + 1 + 1, 0, none⟩) ?_ _, _, ns ++ [n], Lib.hid (allNums_snoc HH1.out HP.out), Cell.set ⟨q2', p2'⟩ _, ?_, ?_, ?_, ?_⟩
      · left; show n0 + 1 + 1 < _; omega
      · rw [List.length_append, List.map_append]
        exact row_low HW.out (grownBy_at _ _ _) (fun r e => by cases e; show n0 + 1 + 1 < _; omega)
      · exact ((Cell.alloc K0.out _).grown HGR.out (fun e => by have := HNE2.out _ e.symm; simp at this <;> omega)).setOther (by intro h; cases h) _
      · exact ((Cell.alloc K1.out _).grown HGR.out (fun e => by have := HNE2.out _ e.symm; simp at this <;> omega)).setOther (by intro h; cases h) _
      · have hz := B1.out.size
        have hz0 := HN0.out
        exact (((B1.out.alloc (by omega) _).grown HGR.out (by simp <;> omega) (fun q e => by have := HNE2.out q e; omega)).setCell (p := ⟨n0 + 1 + 1, 0, none⟩) (show n0 ≤ n0 + 1 + 1 by omega) _)
  case done =>
    rintro xs W rfl ⟨v, ns, h1, ⟨c2, f2⟩, hrow, ⟨c0, f0⟩, ⟨c1, f1⟩, hB⟩ hD
    clear hb0 k0 k1 k2 k3 k4 k5
    obtain ⟨sa, sk, sc, rfl⟩ := row_slice hrow
    have HB := Lib.hid hB
    have HR := Lib.hid hrow
    have HD := Lib.hid hD
    have hl : numList s.data.toList = some ns := by unfold numList; rw [if_neg HNE.out]; exact h1.out
    have HL := Lib.hid hl
    clear hB hrow hD h1 hl
    gi_wp2_with fail
    have q0 := (Cell.set ⟨c0, f0⟩ (.slice sa sk sc)).setOther (q := ⟨n0 + 1, 0, none⟩) (by intro h; cases h) (.int .i64 0)
    have q1 := (Cell.setOther ⟨c1, f1⟩ (q := ⟨n0, 0, none⟩) (by intro h; cases h) (.slice sa sk sc)).set (.int .i64 0)
    have hb := (HB.out.setCell (p := ⟨n0, 0, none⟩) (Nat.le_refl _) (.slice sa sk sc)).setCell (p := ⟨n0 + 1, 0, none⟩) (show n0 ≤ n0 + 1 by omega) (.int .i64 0)
    have hr := row_low (row_low HR.out (grownBy_at W ⟨n0, 0, none⟩ (.slice sa sk sc)) (fun r e => by cases e; show n0 < _; omega)) (grownBy_at (W.setCell ⟨n0, 0, none⟩ (.slice sa sk sc)) ⟨n0 + 1, 0, none⟩ (.int .i64 0)) (fun r e => by cases e; show n0 + 1 < _; omega)
    have hD' : ((W.setCell ⟨n0, 0, none⟩ (.slice sa sk sc)).setCell ⟨n0 + 1, 0, none⟩ (.int .i64 0)).heap[w4.heap.size]? = some (.deferred (some [])) := by
      rw [Below.heap_setCell _ _ _ _ (show w4.heap.size ≠ n0 + 1 by omega), Below.heap_setCell _ _ _ _ (show w4.heap.size ≠ n0 by omega)]
      exact HD.out
    generalize (W.setCell ⟨n0, 0, none⟩ (.slice sa sk sc)).setCell ⟨n0 + 1, 0, none⟩ (.int .i64 0) = W2 at q0 q1 hb hr hD' ⊢
    refine end_of_list HN0.out (by omega) hD' hb rfl rfl q0 q1 (fun W' hg => ?_) ?_
    · rw [HL.out]; exact row_ints (row_low hr hg (fun r e => by cases e; omega))
    · rw [HL.out]; rfl
  case stop =>
    rintro c pre W hpre ⟨rfl, p, x, h1, h2, h3, h4, h5⟩ hD
    clear hb0 k0 k1 k2 k3 k4 k5
    have hl : numList s.data.toList = none := by
      unfold numList
      rw [if_neg HNE.out]
      obtain ⟨q, hq⟩ := hpre
      exact allNums_none (x := x) (by rw [← hq, h1]; simp) h2
    have HL := Lib.hid hl
    have HH := Lib.hid h1
    clear hl h1 h2 hpre
    gi_wp2_with fail
    refine end_of_list HN0.out (by omega) hD h5 rfl rfl h3 h4 (fun W' _ => ?_) ?_
    · rw [HL.out]; exact ⟨.inl ⟨rfl, rfl⟩⟩
    · rw [HL.out]; rfl
theorem list_calls (s : ByteArray) (hs : s.size ≤ 1000000) (w : World) (hG : Glob w) :
    Calls Tryd.prog 14 #[.string s] w (ListIs w s.data.toList) := by
  by_cases hne : s.data.toList = []
  · obtain rfl : s = ⟨#[]⟩ := by
      have := B_list s
      rw [← this, hne]
    exact list_empty w
  · exact callsIn_wide.1 (list_in s hne hs w hG)
end Go.Proofs.YtfnobkcnopmfnaaDoor
